package tests

import (
	"math"
	"slices"
	"testing"

	"loop.example/g00767/impl"
)

// wantSame checks it the one way round and the other.
func wantSame(t *testing.T, name string, a, b impl.State, same bool) {
	t.Helper()
	if impl.SameState(a, b) != same || impl.SameState(b, a) != same {
		t.Errorf("%s: SameState is not %v of %+v and %+v", name, same, a, b)
	}
}

// sameStates are right ones of several plans, and ones that are right in none.
func sameStates() []impl.State {
	n := int64(math.MinInt64)
	list := []impl.State{
		{}, busyState(), edgeState(), plainNew(smallPlan()), plainNew(fullPlan()), readyState(impl.PhDraining),
		{
			Phase: n, Clock: n, Boot: n, Band: n, LockBy: n, Good: n, Probes: n,
			Pods: []impl.PodAt{{State: n, Since: n}}, Mounts: []impl.MountAt{{Busy: n}}, Devices: []bool{false}, Locks: []int64{n, n},
		},
		{Phase: 3, Good: 9, Probes: 1, Mounts: []impl.MountAt{{Busy: 7}}, Locks: []int64{5, 5, -1}},
	}
	for seed := range int64(20) {
		list = append(list, madeState(madePlan(seed), seed+8000))
	}
	return list
}

// numberFields are the numbers of a state that stand in none of its lists.
func numberFields() map[string]func(s *impl.State) *int64 {
	return map[string]func(s *impl.State) *int64{
		"Phase":  func(s *impl.State) *int64 { return &s.Phase },
		"Clock":  func(s *impl.State) *int64 { return &s.Clock },
		"Boot":   func(s *impl.State) *int64 { return &s.Boot },
		"Band":   func(s *impl.State) *int64 { return &s.Band },
		"LockBy": func(s *impl.State) *int64 { return &s.LockBy },
		"Good":   func(s *impl.State) *int64 { return &s.Good },
		"Probes": func(s *impl.State) *int64 { return &s.Probes },
	}
}

// otherNumbers are none of them n.
func otherNumbers(n int64) []int64 {
	list := append(someNumbers(), n+1, n-1, -n-1, n^1<<8, n^1<<16, n^1<<32, n^math.MinInt64)
	return slices.DeleteFunc(list, func(other int64) bool { return other == n })
}

func TestPromise14AStateAndItself(t *testing.T) {
	for _, s := range sameStates() {
		wantSame(t, "itself", s, s, true)
		wantSame(t, "a copy of it", s, ownState(s), true)
		wantSame(t, "a copy with room behind it", s, roomyState(s), true)
		wantSame(t, "two with room behind them", roomyState(s), roomyState(s), true)
	}
}

func TestPromise14EachTwoStates(t *testing.T) {
	for i, a := range sameStates() {
		for j, b := range sameStates() {
			wantSame(t, "each two", a, b, i == j)
		}
	}
}

func TestPromise14ANumberThatIsAnother(t *testing.T) {
	for _, s := range sameStates() {
		for name, field := range numberFields() {
			for _, n := range otherNumbers(*field(&s)) {
				other := ownState(s)
				*field(&other) = n
				wantSame(t, name, s, other, false)
				*field(&other) = *field(&s)
				wantSame(t, name+" as it was", s, other, true)
			}
		}
		other := ownState(s)
		other.Cordon = !s.Cordon
		wantSame(t, "Cordon", s, other, false)
	}
}

// The numbers of one are those of the other, but two have changed their places.
func TestPromise14NumbersThatChangePlaces(t *testing.T) {
	for one, a := range numberFields() {
		for two, b := range numberFields() {
			if one != two {
				s, other := busyState(), busyState()
				*a(&s), *b(&s), *a(&other), *b(&other) = 3, 4, 4, 3
				wantSame(t, one+" and "+two, s, other, false)
			}
		}
	}
}

// Each place of each list is looked at, whether the states are right or not.
func TestPromise14AListThatIsAnother(t *testing.T) {
	for _, s := range sameStates() {
		for i := range s.Pods {
			for _, n := range otherNumbers(s.Pods[i].State) {
				other := ownState(s)
				other.Pods[i].State = n
				wantSame(t, "a pod's State", s, other, false)
			}
			for _, n := range otherNumbers(s.Pods[i].Since) {
				other := ownState(s)
				other.Pods[i].Since = n
				wantSame(t, "a pod's Since", s, other, false)
			}
		}
		for i := range s.Mounts {
			other := ownState(s)
			other.Mounts[i].Held = !s.Mounts[i].Held
			wantSame(t, "a mount's Held", s, other, false)
			for _, n := range otherNumbers(s.Mounts[i].Busy) {
				other := ownState(s)
				other.Mounts[i].Busy = n
				wantSame(t, "a mount's Busy", s, other, false)
			}
		}
		for i := range s.Devices {
			other := ownState(s)
			other.Devices[i] = !s.Devices[i]
			wantSame(t, "a device", s, other, false)
		}
		for i := range s.Locks {
			for _, n := range otherNumbers(s.Locks[i]) {
				other := ownState(s)
				other.Locks[i] = n
				wantSame(t, "a lock", s, other, false)
			}
		}
	}
}

// What stands in one list has changed its place there.
func TestPromise14AnotherOrder(t *testing.T) {
	s := busyState()
	for name, do := range map[string]func(s *impl.State){
		"pods":    func(s *impl.State) { s.Pods[0], s.Pods[1] = s.Pods[1], s.Pods[0] },
		"mounts":  func(s *impl.State) { s.Mounts[1], s.Mounts[2] = s.Mounts[2], s.Mounts[1] },
		"devices": func(s *impl.State) { s.Devices[0], s.Devices[2] = s.Devices[2], s.Devices[0] },
		"locks":   func(s *impl.State) { s.Locks[0], s.Locks[2] = s.Locks[2], s.Locks[0] },
		"a pod":   func(s *impl.State) { s.Pods[0].State, s.Pods[0].Since = s.Pods[0].Since, s.Pods[0].State },
	} {
		other := ownState(s)
		do(&other)
		wantSame(t, name, s, other, false)
	}
}

func TestPromise14ListsThatAreLonger(t *testing.T) {
	longer := map[string]func(s *impl.State){
		"a zero pod":      func(s *impl.State) { s.Pods = append(s.Pods, impl.PodAt{}) },
		"a pod":           func(s *impl.State) { s.Pods = append(s.Pods, impl.PodAt{State: 4, Since: 9}) },
		"a zero mount":    func(s *impl.State) { s.Mounts = append(s.Mounts, impl.MountAt{}) },
		"a mount":         func(s *impl.State) { s.Mounts = append(s.Mounts, impl.MountAt{Held: true}) },
		"a zero device":   func(s *impl.State) { s.Devices = append(s.Devices, false) },
		"a device":        func(s *impl.State) { s.Devices = append(s.Devices, true) },
		"a zero lock":     func(s *impl.State) { s.Locks = append(s.Locks, 0) },
		"a lock":          func(s *impl.State) { s.Locks = append(s.Locks, 7) },
		"a pod ahead":     func(s *impl.State) { s.Pods = slices.Insert(s.Pods, 0, impl.PodAt{State: 6}) },
		"a mount ahead":   func(s *impl.State) { s.Mounts = slices.Insert(s.Mounts, 0, impl.MountAt{Busy: 2}) },
		"a device ahead":  func(s *impl.State) { s.Devices = slices.Insert(s.Devices, 0, true) },
		"a lock ahead":    func(s *impl.State) { s.Locks = slices.Insert(s.Locks, 0, -1) },
		"very many pods":  func(s *impl.State) { s.Pods = make([]impl.PodAt, 5000) },
		"very many locks": func(s *impl.State) { s.Locks = make([]int64, 5000) },
	}
	for _, s := range sameStates() {
		for name, do := range longer {
			other := ownState(s)
			do(&other)
			wantSame(t, name+" more", s, other, false)
			wantSame(t, name+" more, and itself", other, ownState(other), true)
		}
	}
}

// What lies behind the end of a list is none of it, even where it makes one
// list out of another.
func TestPromise14WhatLiesBehindTheEnd(t *testing.T) {
	whole := busyState()
	cut := whole
	cut.Pods, cut.Mounts, cut.Devices, cut.Locks = whole.Pods[:2], whole.Mounts[:4], whole.Devices[:2], whole.Locks[:2]
	wantSame(t, "all are shorter", whole, cut, false)
	for name, do := range map[string]func(s *impl.State){
		"pods":    func(s *impl.State) { s.Pods = cut.Pods },
		"mounts":  func(s *impl.State) { s.Mounts = cut.Mounts },
		"devices": func(s *impl.State) { s.Devices = cut.Devices },
		"locks":   func(s *impl.State) { s.Locks = cut.Locks },
	} {
		one := whole
		do(&one)
		wantSame(t, "fewer "+name, whole, one, false)
	}
	wantSame(t, "as short", cut, ownState(cut), true)
}

func TestPromise14AnEmptyListAndNone(t *testing.T) {
	empties := map[string]func(s *impl.State, nothing bool){
		"pods": func(s *impl.State, nothing bool) {
			if s.Pods = []impl.PodAt{}; nothing {
				s.Pods = nil
			}
		},
		"mounts": func(s *impl.State, nothing bool) {
			if s.Mounts = []impl.MountAt{}; nothing {
				s.Mounts = nil
			}
		},
		"devices": func(s *impl.State, nothing bool) {
			if s.Devices = []bool{}; nothing {
				s.Devices = nil
			}
		},
		"locks": func(s *impl.State, nothing bool) {
			if s.Locks = []int64{}; nothing {
				s.Locks = nil
			}
		},
	}
	for _, s := range sameStates() {
		for name, empty := range empties {
			none, noneInIt := ownState(s), ownState(s)
			empty(&none, true)
			empty(&noneInIt, false)
			wantSame(t, "no "+name, none, noneInIt, true)
		}
	}
	wantSame(t, "no lists at all", impl.State{}, impl.State{
		Pods: []impl.PodAt{}, Mounts: []impl.MountAt{}, Devices: []bool{}, Locks: []int64{},
	}, true)
	wantSame(t, "a full one and none", busyState(), impl.State{}, false)
}
