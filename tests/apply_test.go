package tests

import (
	"slices"
	"testing"

	"loop.example/g00767/impl"
)

// applyBoth calls AppliedRec, and AppliedAll of that one record: both answer
// the same.
func applyBoth(t *testing.T, p impl.Plan, s impl.State, r impl.Rec) (impl.State, bool) {
	t.Helper()
	got, ok := impl.AppliedRec(p, s, r)
	all, also := impl.AppliedAll(p, s, []impl.Rec{r})
	if ok != also || !equalStates(got, all) {
		t.Errorf("of %v AppliedRec makes %+v, %v, AppliedAll %+v, %v", r, got, ok, all, also)
	}
	return got, ok
}

// wantApplied checks that r does to from what do does, nothing else, and that
// it is right then.
func wantApplied(t *testing.T, p impl.Plan, from impl.State, r impl.Rec, do func(s *impl.State)) {
	t.Helper()
	want := ownState(from)
	do(&want)
	got, ok := applyBoth(t, p, from, r)
	if !ok || !equalStates(got, want) {
		t.Errorf("%v makes %+v, %v, not %+v", r, got, ok, want)
	}
	wantState(t, "what is applied", p, got, true)
}

// wantRefused checks that r leaves from as it is.
func wantRefused(t *testing.T, p impl.Plan, from impl.State, r impl.Rec) {
	t.Helper()
	if got, ok := applyBoth(t, p, from, r); ok || !equalStates(got, from) {
		t.Errorf("%v makes %+v, %v, and ought to leave %+v", r, got, ok, from)
	}
}

// wantNoState checks that there is nothing of which a record could make more.
func wantNoState(t *testing.T, name string, p impl.Plan, s impl.State) {
	t.Helper()
	lists := [][]impl.Rec{nil, {{Kind: impl.RcClock, A: 1}}, {{}}, {{Kind: impl.RcPod, A: 12}}, manyRecs(100)}
	for _, list := range lists {
		if got, ok := impl.AppliedAll(p, s, list); ok || !equalStates(got, impl.State{}) {
			t.Errorf("%s: AppliedAll of %d records makes %+v, %v", name, len(list), got, ok)
		}
		for _, r := range list {
			if got, ok := impl.AppliedRec(p, s, r); ok || !equalStates(got, impl.State{}) {
				t.Errorf("%s: AppliedRec of %v makes %+v, %v", name, r, got, ok)
			}
		}
	}
}

// planStates are right states, each beside its plan.
func planStates() []struct {
	plan impl.Plan
	from impl.State
} {
	return []struct {
		plan impl.Plan
		from impl.State
	}{
		{smallPlan(), busyState()}, {smallPlan(), plainNew(smallPlan())},
		{fullPlan(), edgeState()}, {fullPlan(), plainNew(fullPlan())},
		{impl.Plan{Probes: 1, Tries: 1}, impl.State{}},
	}
}

func TestPromise6EachKindChangesItsOwn(t *testing.T) {
	for _, c := range []struct {
		rec impl.Rec
		do  func(s *impl.State)
	}{
		{impl.Rec{Kind: 1, A: 4}, func(s *impl.State) { s.Phase = impl.PhReleasing }},
		{impl.Rec{Kind: 2, A: 1, B: 3}, func(s *impl.State) { s.Pods[1] = impl.PodAt{State: impl.PdKill, Since: 40} }},
		{impl.Rec{Kind: 3, A: 3, B: 4}, func(s *impl.State) { s.Mounts[3].Busy = 4 }},
		{impl.Rec{Kind: 4, A: 2}, func(s *impl.State) { s.Mounts[2] = impl.MountAt{} }},
		{impl.Rec{Kind: 5, A: 1}, func(s *impl.State) { s.Devices[1] = false }},
		{impl.Rec{Kind: 6, A: 5}, func(s *impl.State) { s.Locks = []int64{1, 4, 5, 6} }},
		{impl.Rec{Kind: 7, A: 4}, func(s *impl.State) { s.Locks = []int64{1, 6} }},
		{impl.Rec{Kind: 8, A: 41}, func(s *impl.State) { s.Clock = 41 }},
		{impl.Rec{Kind: 9, A: 4}, func(s *impl.State) { s.Band = 4 }},
		{impl.Rec{Kind: 10, A: 8}, func(s *impl.State) { s.Boot = 8 }},
		{impl.Rec{Kind: 11, A: 99}, func(s *impl.State) { s.LockBy = 99 }},
		{impl.Rec{Kind: 12, A: 4, B: 5}, func(s *impl.State) { s.Good, s.Probes = 4, 5 }},
	} {
		wantApplied(t, smallPlan(), busyState(), c.rec, c.do)
	}
}

// B is looked at in three kinds alone.
func TestPromise6WhatAKindDoesNotNameIsNotLookedAt(t *testing.T) {
	for _, kind := range []int64{1, 4, 5, 6, 7, 8, 9, 10, 11} {
		want, ok := impl.AppliedRec(smallPlan(), busyState(), impl.Rec{Kind: kind, A: 1})
		if !ok {
			t.Fatal("kind", kind)
		}
		for _, b := range fieldEdges() {
			wantApplied(t, smallPlan(), busyState(), impl.Rec{Kind: kind, A: 1, B: b}, func(s *impl.State) { *s = want })
		}
	}
}

func TestPromise6ToEachPhase(t *testing.T) {
	for _, c := range planStates() {
		for phase := range int64(9) {
			from, _ := impl.AppliedRec(c.plan, c.from, impl.Rec{Kind: impl.RcPhase, A: phase})
			for next := range int64(9) {
				wantApplied(t, c.plan, from, impl.Rec{Kind: impl.RcPhase, A: next}, func(s *impl.State) {
					s.Phase, s.Cordon = next, next > 0
					if next == 0 {
						s.Good, s.Probes, s.Locks = 0, 0, nil
					}
				})
			}
			for _, next := range []int64{9, 10, 256, 1000000} {
				wantRefused(t, c.plan, from, impl.Rec{Kind: impl.RcPhase, A: next})
			}
		}
	}
}

// Also where it is PhIdle before: what was counted and who holds a lock is
// forgotten by the record, not by the change of the phase.
func TestPromise6ToIdle(t *testing.T) {
	idle := busyState()
	idle.Phase, idle.Cordon = impl.PhIdle, false
	shutting := busyState()
	for _, from := range []impl.State{idle, shutting} {
		wantApplied(t, smallPlan(), from, impl.Rec{Kind: impl.RcPhase, A: impl.PhIdle}, func(s *impl.State) {
			s.Phase, s.Cordon, s.Good, s.Probes, s.Locks = 0, false, 0, 0, nil
		})
	}
	for phase := int64(1); phase < 9; phase++ {
		got, ok := impl.AppliedRec(smallPlan(), idle, impl.Rec{Kind: impl.RcPhase, A: phase})
		if !ok || !got.Cordon || got.Good != 2 || got.Probes != 3 || !alike(got.Locks, 1, 4, 6) {
			t.Errorf("from idle to %d: %+v, %v", phase, got, ok)
		}
	}
}

func TestPromise6PodsInEachState(t *testing.T) {
	for _, c := range planStates() {
		for _, clock := range []int64{0, 39, 1000000} {
			from := ownState(c.from)
			from.Clock = clock
			for pod := range int64(len(from.Pods)) {
				for state := range int64(7) {
					wantApplied(t, c.plan, from, impl.Rec{Kind: impl.RcPod, A: pod, B: state}, func(s *impl.State) {
						s.Pods[pod] = impl.PodAt{State: state, Since: clock}
					})
				}
				for _, state := range []int64{7, 8, 256, 1000000} {
					wantRefused(t, c.plan, from, impl.Rec{Kind: impl.RcPod, A: pod, B: state})
				}
			}
		}
	}
}

// A mount that is not held may be told that it is not busy: that it is.
func TestPromise6Busy(t *testing.T) {
	for _, c := range planStates() {
		for i, at := range c.from.Mounts {
			r := impl.Rec{Kind: impl.RcBusy, A: int64(i)}
			for r.B = range int64(9) {
				if at.Held && r.B <= 5 || r.B == 0 {
					wantApplied(t, c.plan, c.from, r, func(s *impl.State) { s.Mounts[i].Busy = r.B })
				} else {
					wantRefused(t, c.plan, c.from, r)
				}
			}
			r.B = 1000000
			wantRefused(t, c.plan, c.from, r)
		}
	}
	free := busyState()
	for i := range free.Mounts {
		free.Mounts[i] = impl.MountAt{}
	}
	for i := range int64(len(free.Mounts)) {
		wantApplied(t, smallPlan(), free, impl.Rec{Kind: impl.RcBusy, A: i}, func(*impl.State) {})
		for busy := int64(1); busy < 7; busy++ {
			wantRefused(t, smallPlan(), free, impl.Rec{Kind: impl.RcBusy, A: i, B: busy})
		}
	}
}

// Neither who uses a mount nor what lies in it is asked here; one that is not
// held may be given up again.
func TestPromise6FreeAndGive(t *testing.T) {
	for _, c := range planStates() {
		for i := range c.from.Mounts {
			r := impl.Rec{Kind: impl.RcFree, A: int64(i)}
			free := func(s *impl.State) { s.Mounts[i] = impl.MountAt{Held: false, Busy: 0} }
			for busy := range int64(6) {
				from := ownState(c.from)
				from.Mounts[i] = impl.MountAt{Held: true, Busy: busy}
				wantApplied(t, c.plan, from, r, free)
			}
			from := ownState(c.from)
			free(&from)
			wantApplied(t, c.plan, from, r, func(*impl.State) {})
		}
		for i := range c.from.Devices {
			r := impl.Rec{Kind: impl.RcGive, A: int64(i)}
			for _, held := range []bool{true, false} {
				from := ownState(c.from)
				from.Devices[i] = held
				wantApplied(t, c.plan, from, r, func(s *impl.State) { s.Devices[i] = false })
			}
		}
	}
}

func locksOf(set int) []int64 {
	locks := []int64{}
	for who := range int64(8) {
		if set>>who&1 == 1 {
			locks = append(locks, who)
		}
	}
	return locks
}

// Each one comes to each set of those who hold one, and goes from it.
func TestPromise6Locks(t *testing.T) {
	for set := range 256 {
		from := busyState()
		from.Locks = locksOf(set)
		for who := range int64(8) {
			wantApplied(t, smallPlan(), from, impl.Rec{Kind: impl.RcLock, A: who}, func(s *impl.State) {
				s.Locks = locksOf(set | 1<<who)
			})
			wantApplied(t, smallPlan(), from, impl.Rec{Kind: impl.RcUnlock, A: who}, func(s *impl.State) {
				s.Locks = locksOf(set &^ (1 << who))
			})
		}
		// One who can hold none holds none already.
		for _, who := range []int64{8, 9, 256, 1000000} {
			wantRefused(t, smallPlan(), from, impl.Rec{Kind: impl.RcLock, A: who})
			wantApplied(t, smallPlan(), from, impl.Rec{Kind: impl.RcUnlock, A: who}, func(*impl.State) {})
		}
	}
}

func TestPromise6Probes(t *testing.T) {
	for _, limits := range [][2]int64{{1, 1}, {1, 2}, {2, 5}, {9, 9}, {9, 30}} {
		p := smallPlan()
		p.Probes, p.Tries = limits[0], limits[1]
		from := busyState()
		from.Good, from.Probes = 0, 1
		for good := range int64(33) {
			for probes := range int64(33) {
				r := impl.Rec{Kind: impl.RcProbe, A: good, B: probes}
				if good <= probes && probes <= p.Tries {
					wantApplied(t, p, from, r, func(s *impl.State) { s.Good, s.Probes = good, probes })
				} else {
					wantRefused(t, p, from, r)
				}
			}
		}
		for _, n := range []int64{256, 1000000} {
			wantRefused(t, p, from, impl.Rec{Kind: impl.RcProbe, B: n})
			wantRefused(t, p, from, impl.Rec{Kind: impl.RcProbe, A: n, B: n})
			wantRefused(t, p, from, impl.Rec{Kind: impl.RcProbe, A: n})
		}
	}
}

// The numbers of a state go up to their limits, and down again.
func TestPromise6NumbersAtTheirEdges(t *testing.T) {
	for _, c := range []struct {
		kind, most int64
		field      func(s *impl.State) *int64
	}{
		{impl.RcClock, 1000000, func(s *impl.State) *int64 { return &s.Clock }},
		{impl.RcBand, 6, func(s *impl.State) *int64 { return &s.Band }},
		{impl.RcBoot, 1000000, func(s *impl.State) *int64 { return &s.Boot }},
		{impl.RcLockBy, 1000000, func(s *impl.State) *int64 { return &s.LockBy }},
	} {
		numbers := slices.Concat(someNumbers(), fieldEdges(), wrongFields(), []int64{c.most, c.most + 1})
		for _, from := range planStates() {
			for _, n := range numbers {
				r := impl.Rec{Kind: c.kind, A: n}
				if 0 <= n && n <= c.most {
					wantApplied(t, from.plan, from.from, r, func(s *impl.State) { *c.field(s) = n })
				} else {
					wantRefused(t, from.plan, from.from, r)
				}
			}
		}
	}
}

func TestPromise6NoSuchPodMountOrDevice(t *testing.T) {
	bare := smallPlan()
	bare.Mounts, bare.Devices = nil, nil
	states := planStates()
	states = append(states, states[0])
	states[len(states)-1].plan, states[len(states)-1].from = bare, plainNew(bare)
	for _, c := range states {
		for kind, count := range map[int64]int{
			impl.RcPod: len(c.plan.Pods), impl.RcBusy: len(c.plan.Mounts),
			impl.RcFree: len(c.plan.Mounts), impl.RcGive: len(c.plan.Devices),
		} {
			for _, n := range slices.Concat(someNumbers(), fieldEdges(), wrongFields(), []int64{int64(count), int64(count) + 1}) {
				r := impl.Rec{Kind: kind, A: n}
				if n < 0 || n >= int64(count) {
					wantRefused(t, c.plan, c.from, r)
				} else if _, ok := applyBoth(t, c.plan, c.from, r); !ok {
					t.Errorf("%v is refused", r)
				}
			}
		}
	}
}

func TestPromise6RecordsThatAreNotRight(t *testing.T) {
	for _, c := range planStates() {
		for _, kind := range wrongKinds() {
			wantRefused(t, c.plan, c.from, impl.Rec{Kind: kind})
			wantRefused(t, c.plan, c.from, impl.Rec{Kind: kind, A: 1, B: 1})
		}
		for _, kind := range recKinds() {
			for _, n := range wrongFields() {
				wantRefused(t, c.plan, c.from, impl.Rec{Kind: kind, A: n})
				wantRefused(t, c.plan, c.from, impl.Rec{Kind: kind, B: n})
				wantRefused(t, c.plan, c.from, impl.Rec{Kind: kind, A: n, B: n})
			}
		}
	}
}

func TestPromise6StatesThatAreNotRight(t *testing.T) {
	for name, spoil := range stateSpoils() {
		for _, c := range planStates() {
			s := ownState(c.from)
			spoil(&s)
			wantNoState(t, name, c.plan, s)
		}
	}
	wantNoState(t, "the zero state", smallPlan(), impl.State{})
	wantNoState(t, "of another plan", fullPlan(), busyState())
	wantNoState(t, "of another plan", smallPlan(), edgeState())
}

// What is wrong is not mended by the record that would mend it.
func TestPromise6AWrongStateIsNotMended(t *testing.T) {
	for _, c := range []struct {
		spoil func(s *impl.State)
		mend  impl.Rec
	}{
		{func(s *impl.State) { s.Cordon = false }, impl.Rec{Kind: impl.RcPhase, A: 3}},
		{func(s *impl.State) { s.Pods[1].State = 7 }, impl.Rec{Kind: impl.RcPod, A: 1}},
		{func(s *impl.State) { s.Mounts[2].Busy = 6 }, impl.Rec{Kind: impl.RcBusy, A: 2}},
		{func(s *impl.State) { s.Mounts[2].Held = false }, impl.Rec{Kind: impl.RcFree, A: 2}},
		{func(s *impl.State) { s.Locks = []int64{8} }, impl.Rec{Kind: impl.RcUnlock, A: 8}},
		{func(s *impl.State) { s.Locks = []int64{5, 2} }, impl.Rec{Kind: impl.RcPhase}},
		{func(s *impl.State) { s.Clock = 1000001 }, impl.Rec{Kind: impl.RcClock}},
		{func(s *impl.State) { s.Band = 7 }, impl.Rec{Kind: impl.RcBand}},
		{func(s *impl.State) { s.Boot = -1 }, impl.Rec{Kind: impl.RcBoot}},
		{func(s *impl.State) { s.LockBy = -1 }, impl.Rec{Kind: impl.RcLockBy}},
		{func(s *impl.State) { s.Good = 4 }, impl.Rec{Kind: impl.RcProbe}},
	} {
		s := busyState()
		c.spoil(&s)
		if got, ok := applyBoth(t, smallPlan(), s, c.mend); ok || !equalStates(got, impl.State{}) {
			t.Errorf("%v mends a wrong state: %+v", c.mend, got)
		}
	}
}

func TestPromise6PlansThatAreNotRight(t *testing.T) {
	for name, spoil := range wrongPlans() {
		p := smallPlan()
		spoil(&p)
		wantNoState(t, name+", one that would fit", p, plainNew(p))
		wantNoState(t, name+", one that did fit", p, busyState())
		wantNoState(t, name+", the zero state", p, impl.State{})
	}
}
