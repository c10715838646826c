package tests

import (
	"math"
	"slices"
	"testing"

	"loop.example/g00767/impl"
)

// mountsPlan has a mount with each of these parents, in this order, that pod 0
// uses, and a device on each mount; pod 1 uses none.
func mountsPlan(parents ...int64) impl.Plan {
	p := impl.Plan{Pods: []impl.Pod{{}, {Band: 1}}, Mins: []int64{0}, Probes: 1, Tries: 1}
	for i, parent := range parents {
		p.Mounts = append(p.Mounts, impl.Mount{Pod: 0, Parent: parent})
		p.Devices = append(p.Devices, impl.Device{Mount: int64(i)})
	}
	return p
}

// ended is a state of p in which nobody is alive, and of the mounts and devices
// all are held but these mounts.
func ended(p impl.Plan, free ...int64) impl.State {
	s := plainNew(p)
	s.Phase, s.Cordon = impl.PhReleasing, true
	for i := range s.Pods {
		s.Pods[i].State = impl.PdStopped + int64(i)%3
	}
	for _, mount := range free {
		s.Mounts[mount] = impl.MountAt{}
	}
	return s
}

// wantHold checks that just those are told of whom may says so.
func wantHold(t *testing.T, name, call string, p impl.Plan, s impl.State, may func(impl.Plan, impl.State, int64) bool, these []int64) {
	t.Helper()
	for _, n := range append(notNumbers(), 0, 1, 2, 3, 4, 5, 6, 7, 8, 9, 10, 11) {
		if want := slices.Contains(these, n); may(p, s, n) != want {
			t.Errorf("%s: %s %d is not %v of %+v", name, call, n, want, s)
		}
	}
}

// wantFree checks that these mounts may be freed, and no others.
func wantFree(t *testing.T, name string, p impl.Plan, s impl.State, mounts ...int64) {
	t.Helper()
	wantHold(t, name, "MayFree", p, s, impl.MayFree, mounts)
}

// wantGive checks that these devices may be given, and no others.
func wantGive(t *testing.T, name string, p impl.Plan, s impl.State, devices ...int64) {
	t.Helper()
	wantHold(t, name, "MayGive", p, s, impl.MayGive, devices)
}

// wantNoHold checks that nothing is told of what is not right.
func wantNoHold(t *testing.T, name string, p impl.Plan, s impl.State) {
	t.Helper()
	wantFree(t, name, p, s)
	wantGive(t, name, p, s)
}

// plainFree and plainGive are the document's sentences of a right state.
func plainFree(p impl.Plan, s impl.State) []int64 {
	mounts := []int64{}
	for i, m := range p.Mounts {
		free := s.Mounts[i].Held && s.Pods[m.Pod].State >= 4
		for k, inner := range p.Mounts {
			free = free && (inner.Parent != int64(i) || !s.Mounts[k].Held)
		}
		if free {
			mounts = append(mounts, int64(i))
		}
	}
	return mounts
}

func plainGive(p impl.Plan, s impl.State) []int64 {
	devices := []int64{}
	for i, d := range p.Devices {
		if s.Devices[i] && !s.Mounts[d.Mount].Held {
			devices = append(devices, int64(i))
		}
	}
	return devices
}

func wantAsPlainHold(t *testing.T, name string, p impl.Plan, s impl.State) {
	t.Helper()
	wantFree(t, name, p, s, plainFree(p, s)...)
	wantGive(t, name, p, s, plainGive(p, s)...)
}

func TestPromise9AnOrdinaryPlan(t *testing.T) {
	p := smallPlan()
	wantFree(t, "a new one", p, plainNew(p))
	wantGive(t, "a new one", p, plainNew(p))
	wantFree(t, "a busy one", p, busyState())
	wantGive(t, "a busy one", p, busyState(), 2)
	wantFree(t, "all have ended", p, ended(p), 1, 2, 4)
	wantGive(t, "all have ended", p, ended(p))
	wantFree(t, "the innermost is free", p, ended(p, 4), 1, 2, 3)
	wantGive(t, "the innermost is free", p, ended(p, 4), 0, 2)
	wantFree(t, "the one around it too", p, ended(p, 3, 4), 1, 2)
	wantFree(t, "one is left", p, ended(p, 1, 2, 3, 4), 0)
	wantGive(t, "one is left", p, ended(p, 1, 2, 3, 4), 0, 2)
	wantFree(t, "none is left", p, ended(p, 0, 1, 2, 3, 4))
	wantGive(t, "none is left", p, ended(p, 0, 1, 2, 3, 4), 0, 1, 2)
	wantFree(t, "at the limits", fullPlan(), edgeState(), 11)
	wantGive(t, "at the limits", fullPlan(), edgeState())
}

// One past the last is no mount, no device, however many there are.
func TestPromise9WhichOne(t *testing.T) {
	for count := range int64(13) {
		p, all := mountsPlan(slices.Repeat([]int64{-1}, int(count))...), []int64{}
		for n := range count {
			all = append(all, n)
		}
		wantFree(t, "all are held", p, ended(p), all...)
		wantGive(t, "all are held", p, ended(p))
		wantFree(t, "no mount is held", p, ended(p, all...))
		wantGive(t, "no mount is held", p, ended(p, all...), all...)
	}
	none := impl.Plan{Probes: 1, Tries: 1}
	wantNoHold(t, "nothing is there", none, impl.State{})
}

// There may be more mounts than devices, and more devices than mounts.
func TestPromise9MountsAndDevicesApart(t *testing.T) {
	p := mountsPlan(-1, -1, -1, -1, -1)
	p.Devices = []impl.Device{{Mount: 4}, {Mount: 1}}
	wantFree(t, "more mounts", p, ended(p, 1), 0, 2, 3, 4)
	wantGive(t, "more mounts", p, ended(p, 1), 1)
	wantGive(t, "more mounts", p, ended(p, 4), 0)
	wantGive(t, "more mounts", p, ended(p, 0, 2, 3))
	p = mountsPlan(-1, -1)
	p.Devices = []impl.Device{{Mount: 1}, {Mount: 0}, {Mount: 1}, {Mount: 1}, {Mount: 0}}
	wantFree(t, "more devices", p, ended(p, 0), 1)
	wantGive(t, "more devices", p, ended(p, 0), 1, 4)
	wantGive(t, "more devices", p, ended(p, 1), 0, 2, 3)
	p.Devices = nil
	wantFree(t, "no devices", p, ended(p), 0, 1)
	wantGive(t, "no devices", p, ended(p, 0, 1))
}

func TestPromise9AMountThatIsNotHeld(t *testing.T) {
	p := mountsPlan(-1, -1, 1, 1)
	wantFree(t, "it has no child", p, ended(p, 0), 2, 3)
	wantFree(t, "its children are held", p, ended(p, 1), 0, 2, 3)
	wantFree(t, "its children are free", p, ended(p, 1, 2, 3), 0)
	s := ended(p, 0, 1, 2, 3)
	wantFree(t, "none is held", p, s)
	s.Pods[0].State = impl.PdRunning
	wantFree(t, "its pod runs", p, s)
}

// Only the pod that uses a mount counts, and of it only whether it is alive.
func TestPromise9MayFreeInEachStateOfItsPod(t *testing.T) {
	p := mountsPlan(-1, -1, 1)
	p.Mounts[0].Pod, p.Mounts[2].Pod = 1, 1
	for state := range int64(7) {
		dead := state >= impl.PdStopped
		s := ended(p)
		s.Pods[0].State = state
		wantFree(t, "the pod of a mount with a child that is held", p, s, 0, 2)
		s = ended(p, 2)
		s.Pods[0].State = state
		if dead {
			wantFree(t, "the pod of a mount", p, s, 0, 1)
		} else {
			wantFree(t, "the pod of a mount", p, s, 0)
		}
		s = ended(p)
		s.Pods[1].State = state
		if dead {
			wantFree(t, "the pod of two mounts", p, s, 0, 2)
		} else {
			wantFree(t, "the pod of two mounts", p, s)
		}
		s = ended(p, 2)
		s.Pods[1].State = state
		if dead {
			wantFree(t, "the pod of a child that is free", p, s, 0, 1)
		} else {
			wantFree(t, "the pod of a child that is free", p, s, 1)
		}
	}
}

func TestPromise9EachPodIsLookedAt(t *testing.T) {
	for pod := range int64(12) {
		p := impl.Plan{Mins: []int64{0}, Probes: 1, Tries: 1}
		all := []int64{}
		for i := range int64(12) {
			p.Pods = append(p.Pods, impl.Pod{Band: i % 6})
			p.Mounts = append(p.Mounts, impl.Mount{Pod: (i + 5) % 12, Parent: -1})
			if (i+5)%12 != pod {
				all = append(all, i)
			}
		}
		for state := range int64(4) {
			s := ended(p)
			s.Pods[pod].State = state
			wantFree(t, "one is alive", p, s, all...)
			s = plainNew(p)
			s.Pods[pod].State = impl.PdStopped + state%3
			wantFree(t, "all others run", p, s, (pod+7)%12)
		}
	}
}

func TestPromise9OneChild(t *testing.T) {
	p := mountsPlan(-1, 0)
	wantFree(t, "it is held", p, ended(p), 1)
	wantFree(t, "it is not", p, ended(p, 1), 0)
	wantFree(t, "it alone is", p, ended(p, 0), 1)
	far := mountsPlan(-1, -1, -1, -1, -1, -1, -1, -1, -1, -1, -1, 0)
	wantFree(t, "the last one in the first", far, ended(far), 1, 2, 3, 4, 5, 6, 7, 8, 9, 10, 11)
	wantFree(t, "it is not held", far, ended(far, 11), 0, 1, 2, 3, 4, 5, 6, 7, 8, 9, 10)
}

// Of several children just one is held, or all but one, or any of them.
func TestPromise9SeveralChildren(t *testing.T) {
	p := mountsPlan(-1, -1, 1, 0, 1, 1, 0, 1, 4)
	children := []int64{2, 4, 5, 7}
	for _, keep := range children {
		free := slices.DeleteFunc(slices.Clone(children), func(n int64) bool { return n == keep })
		s := ended(p, append(free, 8)...)
		wantFree(t, "one child is held", p, s, 3, 6, keep)
		s = ended(p, keep, 8)
		wantFree(t, "one child is not held", p, s, append([]int64{3, 6}, free...)...)
	}
	wantFree(t, "no child is held", p, ended(p, 2, 4, 5, 7, 8), 1, 3, 6)
	wantFree(t, "all children are held", p, ended(p, 8), 2, 3, 4, 5, 6, 7)
	for set := range 1 << len(children) {
		s, want := ended(p, 0, 3, 6, 8), []int64{}
		for i, child := range children {
			if set>>i&1 == 1 {
				want = append(want, child)
			} else {
				s.Mounts[child] = impl.MountAt{}
			}
		}
		if set == 0 {
			want = []int64{1}
		}
		wantFree(t, "any of the children are held", p, s, want...)
	}
}

// What lies in a child that is not held does not count, held or not.
func TestPromise9AChildOfAChild(t *testing.T) {
	p := mountsPlan(-1, 0, 1, 2)
	wantFree(t, "the child alone is not held", p, ended(p, 1), 0, 3)
	wantFree(t, "the child of the child is held", p, ended(p, 1, 3), 0, 2)
	wantFree(t, "the innermost one is held", p, ended(p, 1, 2), 0, 3)
	wantFree(t, "the innermost one and the child are held", p, ended(p, 2), 1, 3)
	wantFree(t, "the child of the child alone is not held", p, ended(p, 2, 3), 1)
}

// Those that lie in none have no parent: what becomes of one is nothing to
// another one.
func TestPromise9MountsThatLieInNone(t *testing.T) {
	p := mountsPlan(-1, -1, -1, -1)
	for set := range 16 {
		s, held, given := ended(p), []int64{}, []int64{}
		for mount := range int64(4) {
			if set>>mount&1 == 1 {
				held = append(held, mount)
			} else {
				s.Mounts[mount] = impl.MountAt{}
				given = append(given, mount)
			}
		}
		wantFree(t, "none lies in any", p, s, held...)
		wantGive(t, "none lies in any", p, s, given...)
	}
}

// How busy a mount is, or what lies in it, changes nothing: that takes ticks.
func TestPromise9BusyMounts(t *testing.T) {
	p := mountsPlan(-1, 0, 0, -1)
	for busy := range int64(6) {
		s := ended(p, 1)
		for _, mount := range []int{0, 2, 3} {
			s.Mounts[mount].Busy = busy
		}
		wantFree(t, "all are busy", p, s, 2, 3)
		wantGive(t, "all are busy", p, s, 1)
		s.Mounts[2] = impl.MountAt{}
		wantFree(t, "the outer one is busy", p, s, 0, 3)
		wantGive(t, "the outer one is busy", p, s, 1, 2)
	}
}

func TestPromise9MayGive(t *testing.T) {
	p := mountsPlan(-1, 0)
	p.Devices = []impl.Device{{Mount: 1}, {Mount: 0}, {Mount: 1}}
	for set := range 8 {
		for mounts := range 4 {
			s, want := ended(p), []int64{}
			for mount := range 2 {
				s.Mounts[mount].Held = mounts>>mount&1 == 1
			}
			for device, d := range p.Devices {
				s.Devices[device] = set>>device&1 == 1
				if s.Devices[device] && !s.Mounts[d.Mount].Held {
					want = append(want, int64(device))
				}
			}
			wantGive(t, "each one held or not", p, s, want...)
		}
	}
}

// A device waits for its own mount alone: neither for those in that one, nor
// for those around it, nor for any pod.
func TestPromise9MayGiveLooksAtItsMountAlone(t *testing.T) {
	p := mountsPlan(-1, 0, 1)
	wantGive(t, "the one around it and the one in it are held", p, ended(p, 1), 1)
	wantGive(t, "the innermost one is held", p, ended(p, 0, 1), 0, 1)
	for state := range int64(7) {
		s := ended(p, 1, 2)
		s.Pods[0].State, s.Pods[1].State = state, 6-state
		wantGive(t, "pods in any state", p, s, 1, 2)
		s.Devices[2] = false
		wantGive(t, "pods in any state, a device is given", p, s, 1)
	}
}

func TestPromise9EachDeviceIsLookedAt(t *testing.T) {
	p := fullPlan()
	for i := range p.Devices {
		p.Devices[i].Mount = int64(i+7) % 12
	}
	for mount := range int64(12) {
		s := ended(p, mount)
		wantGive(t, "one mount is not held", p, s, (mount+5)%12)
		s.Devices[(mount+5)%12] = false
		wantGive(t, "its device is given", p, s)
	}
}

// Neither the phase nor anything else that a state counts is asked.
func TestPromise9InEachPhase(t *testing.T) {
	for phase := range int64(9) {
		p := smallPlan()
		s := busyState()
		s.Phase, s.Cordon = phase, phase != impl.PhIdle
		wantFree(t, "a phase", p, s)
		wantGive(t, "a phase", p, s, 2)
		s.Pods[2].State = impl.PdEvicted
		wantFree(t, "a phase, one has gone", p, s, 2)
		s.Pods[0].State = impl.PdFailed
		wantFree(t, "a phase, all have gone", p, s, 2, 3)
		s.Devices[0] = true
		wantGive(t, "a phase, all are held", p, s, 0, 2)
		full := edgeState()
		full.Phase, full.Cordon = phase, phase != impl.PhIdle
		full.Mounts[10], full.Mounts[11] = impl.MountAt{}, impl.MountAt{}
		wantFree(t, "a phase, at the limits", fullPlan(), full, 9)
		wantGive(t, "a phase, at the limits", fullPlan(), full, 0, 1, 2, 3, 4, 5, 6, 7, 8, 9, 10, 11)
	}
}

func TestPromise9NothingElseIsAsked(t *testing.T) {
	p := mountsPlan(-1, 0, -1)
	for name, do := range map[string]func(s *impl.State){
		"the clock":   func(s *impl.State) { s.Clock = 1000000 },
		"the boot":    func(s *impl.State) { s.Boot = 1000000 },
		"the band":    func(s *impl.State) { s.Band = 6 },
		"locks":       func(s *impl.State) { s.LockBy, s.Locks = 1000000, []int64{0, 1, 2, 3, 4, 5, 6, 7} },
		"since":       func(s *impl.State) { s.Pods[0].Since, s.Pods[1].Since = 1000000, 3 },
		"probes":      func(s *impl.State) { s.Good, s.Probes = 1, 1 },
		"other pods":  func(s *impl.State) { s.Pods[1].State = impl.PdRunning },
		"empty locks": func(s *impl.State) { s.Locks = []int64{} },
	} {
		s := ended(p, 1)
		do(&s)
		wantFree(t, name, p, s, 0, 2)
		wantGive(t, name, p, s, 1)
	}
}

func TestPromise9StatesThatAreNotRight(t *testing.T) {
	for _, p := range []impl.Plan{smallPlan(), fullPlan(), mountsPlan(-1, 0, -1)} {
		last := int64(len(p.Mounts)) - 1
		for name, spoil := range stateSpoils() {
			s := ended(p, last)
			wantAsPlainHold(t, "ahead of "+name, p, s)
			if len(plainFree(p, s)) == 0 || len(plainGive(p, s)) == 0 {
				t.Fatal("nothing may be given back that could be refused")
			}
			spoil(&s)
			wantNoHold(t, name, p, s)
		}
		for _, n := range []int64{-1, 7, math.MinInt64, math.MaxInt64, 1 << 32} {
			for pod := range p.Pods {
				s := ended(p, last)
				s.Pods[pod].State = n
				wantNoHold(t, "a pod in no state", p, s)
			}
			for mount := range p.Mounts {
				s := ended(p, last)
				s.Mounts[mount].Busy = n
				wantNoHold(t, "a mount that is no so busy", p, s)
			}
		}
		for name, cut := range map[string]func(s *impl.State){
			"a busy mount that is not held": func(s *impl.State) { s.Mounts[last].Busy = 1 },
			"a pod fewer":                   func(s *impl.State) { s.Pods = s.Pods[:len(s.Pods)-1] },
			"a mount fewer":                 func(s *impl.State) { s.Mounts = s.Mounts[:last] },
			"a device fewer":                func(s *impl.State) { s.Devices = s.Devices[:len(s.Devices)-1] },
			"no pods":                       func(s *impl.State) { s.Pods = nil },
			"no mounts":                     func(s *impl.State) { s.Mounts = nil },
			"no devices":                    func(s *impl.State) { s.Devices = nil },
		} {
			s := ended(p, last)
			cut(&s)
			wantNoHold(t, name, p, s)
		}
		wantNoHold(t, "the zero state", p, impl.State{})
	}
	wantNoHold(t, "of another plan", smallPlan(), ended(fullPlan(), 11))
	wantNoHold(t, "of another plan", fullPlan(), ended(smallPlan(), 4))
}

func TestPromise9PlansThatAreNotRight(t *testing.T) {
	for name, spoil := range wrongPlans() {
		p := smallPlan()
		wantFree(t, "ahead of "+name, p, ended(p, 4), 1, 2, 3)
		wantGive(t, "ahead of "+name, p, ended(p, 4), 0, 2)
		spoil(&p)
		fits := ended(p)
		for mount := range fits.Mounts {
			if mount%2 == 0 {
				fits.Mounts[mount] = impl.MountAt{}
			}
		}
		wantNoHold(t, name+", a state that would fit", p, fits)
		wantNoHold(t, name+", a state that did fit", p, ended(smallPlan(), 4))
	}
}

// Four mounts in all ways in which they can lie, each held or not, with the pod
// of some of them alive or not.
func TestPromise9AllWaysOfFour(t *testing.T) {
	for n := range int64(1 * 2 * 3 * 4) {
		p := mountsPlan(-1, n%2-1, n/2%3-1, n/6%4-1)
		p.Mounts[1].Pod, p.Mounts[2].Pod = 1, 1
		for set := range 16 {
			for states := range int64(4) {
				s := ended(p)
				s.Pods[0].State = 3 + states%2
				s.Pods[1].State = 3 + states/2
				for mount := range 4 {
					s.Mounts[mount].Held = set>>mount&1 == 1
				}
				wantAsPlainHold(t, "four mounts", p, s)
			}
		}
	}
}

func TestPromise9MadeStates(t *testing.T) {
	for seed := range int64(600) {
		p := madePlan(seed)
		s := madeState(p, seed+3000)
		wantAsPlainHold(t, "a made one", p, s)
		for pod := range s.Pods {
			if (int64(pod)+seed)%4 > 0 {
				s.Pods[pod].State = impl.PdStopped + (int64(pod)+seed)%3
			}
		}
		wantAsPlainHold(t, "a made one of which most have ended", p, s)
	}
}

// releasing goes through all states to which those come that give back, in any
// order, what they may.
type releasing struct {
	t    *testing.T
	plan impl.Plan
	seen map[int]bool
}

// heldMounts tells which mounts are held, a bit for each.
func heldMounts(s impl.State) int {
	set := 0
	for mount, at := range s.Mounts {
		if at.Held {
			set |= 1 << mount
		}
	}
	return set
}

// from frees each mount that may be, and goes on from there.
func (r releasing) from(s impl.State) {
	set := heldMounts(s)
	if r.seen[set] {
		return
	}
	r.seen[set] = true
	wantInnermostFirst(r.t, r.plan, s)
	over := true
	for mount := range int64(len(r.plan.Mounts)) {
		if !impl.MayFree(r.plan, s, mount) {
			continue
		}
		over = false
		made, ok := impl.AppliedRec(r.plan, s, impl.Rec{Kind: impl.RcFree, A: mount})
		if !ok || heldMounts(made) != set&^(1<<mount) {
			r.t.Fatalf("mount %d may be freed from %+v, and is not", mount, s)
		}
		r.from(made)
	}
	if over {
		wantNoMoreThanLives(r.t, r.plan, s)
	}
}

// wantInnermostFirst checks that whatever is not held is used by nobody, and
// has nothing held in it, and that each device can be given just then.
func wantInnermostFirst(t *testing.T, p impl.Plan, s impl.State) {
	t.Helper()
	for mount, at := range s.Mounts {
		if at.Held {
			continue
		}
		if impl.Alive(s.Pods[p.Mounts[mount].Pod].State) {
			t.Fatalf("mount %d is free, and its pod is alive in %+v", mount, s)
		}
		for _, child := range impl.ChildrenOf(p, int64(mount)) {
			if s.Mounts[child].Held {
				t.Fatalf("mount %d is free, and %d in it is held in %+v", mount, child, s)
			}
		}
	}
	for device, d := range p.Devices {
		if impl.MayGive(p, s, int64(device)) != !s.Mounts[d.Mount].Held {
			t.Fatalf("MayGive %d is not right in %+v", device, s)
		}
	}
}

// wantNoMoreThanLives checks of a state in which no mount may be freed any more
// that just those are held that a pod uses which is alive, and those around them.
func wantNoMoreThanLives(t *testing.T, p impl.Plan, s impl.State) {
	t.Helper()
	want := 0
	for mount, m := range p.Mounts {
		if impl.Alive(s.Pods[m.Pod].State) {
			for n := int64(mount); n >= 0; n = p.Mounts[n].Parent {
				want |= 1 << n
			}
		}
	}
	if heldMounts(s) != want {
		t.Fatalf("no more may be freed of %+v, and these mounts are used: %b", s, want)
	}
	if want == 0 {
		wantAllGiven(t, p, s)
	}
}

// wantAllGiven gives all devices, where no mount is held, in some orders.
func wantAllGiven(t *testing.T, p impl.Plan, s impl.State) {
	t.Helper()
	for _, order := range orders(len(p.Devices)) {
		made, left := s, len(p.Devices)
		for _, device := range order {
			if !impl.MayGive(p, made, device) {
				continue
			}
			next, ok := impl.AppliedRec(p, made, impl.Rec{Kind: impl.RcGive, A: device})
			if !ok || next.Devices[device] {
				t.Fatalf("device %d may be given from %+v, and is not", device, made)
			}
			made, left = next, left-1
		}
		if left != 0 || slices.Contains(made.Devices, true) {
			t.Fatalf("in the order %v are left %d devices: %v", order, left, made.Devices)
		}
		wantNoHold(t, "all is given back", p, made)
	}
}

func wantReleased(t *testing.T, p impl.Plan, s impl.State) {
	t.Helper()
	wantState(t, "ahead of all", p, s, true)
	releasing{t: t, plan: p, seen: map[int]bool{}}.from(s)
}

func TestPromise9FromTheInnermostOn(t *testing.T) {
	for name, p := range map[string]impl.Plan{
		"nothing":                     mountsPlan(),
		"one":                         mountsPlan(-1),
		"an ordinary one":             smallPlan(),
		"each in the one ahead of it": fullPlan(),
		"all in the first one":        mountsPlan(-1, 0, 0, 0, 0, 0, 0, 0, 0),
		"two in each":                 mountsPlan(-1, 0, 0, 1, 1, 2, 2, 3, 3, 4, 4, 5),
		"two chains":                  mountsPlan(-1, -1, 0, 1, 2, 3, 4, 5, 6, 7, 8, 9),
		"none in any":                 mountsPlan(-1, -1, -1, -1, -1, -1, -1, -1),
	} {
		t.Run(name, func(t *testing.T) { wantReleased(t, p, ended(p)) })
	}
	for seed := range int64(40) {
		p := madePlan(seed)
		p.Mounts = p.Mounts[:min(len(p.Mounts), 9)]
		p.Devices = slices.DeleteFunc(p.Devices, func(d impl.Device) bool { return d.Mount > 8 })
		wantReleased(t, p, ended(p))
	}
}

// A mount that a pod uses which is alive keeps all those around it, and no
// others.
func TestPromise9WhatIsStillUsed(t *testing.T) {
	p := mountsPlan(-1, 0, 1, 0, 3, -1, 5, 5)
	for mount := range p.Mounts {
		used := p
		used.Mounts = slices.Clone(p.Mounts)
		used.Mounts[mount].Pod = 1
		for state := range int64(7) {
			s := ended(used)
			s.Pods[1].State = state
			wantReleased(t, used, s)
		}
	}
	for seed := range int64(40) {
		p := madePlan(seed)
		p.Mounts = p.Mounts[:min(len(p.Mounts), 9)]
		p.Devices = slices.DeleteFunc(p.Devices, func(d impl.Device) bool { return d.Mount > 8 })
		s := ended(p)
		s.Pods[seed%int64(len(p.Pods))].State = seed % 4
		wantReleased(t, p, s)
	}
}

// No device may be given ahead of its mount, and each one at once behind it.
func TestPromise9OneAfterTheOther(t *testing.T) {
	p := fullPlan()
	for i := range p.Devices {
		p.Devices[i].Mount = int64(i)
	}
	s := ended(p)
	for mount := int64(11); mount >= 0; mount-- {
		wantFree(t, "one after the other", p, s, mount)
		wantGive(t, "one after the other", p, s)
		for _, r := range []impl.Rec{{Kind: impl.RcFree, A: mount}, {Kind: impl.RcGive, A: mount}} {
			if r.Kind == impl.RcGive {
				wantGive(t, "its mount is free", p, s, mount)
			}
			made, ok := impl.AppliedRec(p, s, r)
			if !ok {
				t.Fatalf("%v is not applied to %+v", r, s)
			}
			s = made
		}
	}
	wantNoHold(t, "all is given back", p, s)
}
