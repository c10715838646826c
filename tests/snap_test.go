package tests

import (
	"slices"
	"testing"

	"loop.example/g00767/impl"
)

// clockIs, lockIs and lockByIs are what may be told in a snapshot beside those
// records that may come of a tick or of a boot.
func clockIs(clock int64) impl.Rec  { return impl.Rec{Kind: 8, A: clock} }
func lockIs(who int64) impl.Rec     { return impl.Rec{Kind: 6, A: who} }
func lockByIs(clock int64) impl.Rec { return impl.Rec{Kind: 11, A: clock} }

// plainSnap is the document's chapter, sentence by sentence.
func plainSnap(p impl.Plan, s impl.State) []impl.Rec {
	list := []impl.Rec{}
	if !impl.StateOk(p, s) {
		return list
	}
	if s.Phase > 0 {
		list = append(list, phaseIs(s.Phase))
	}
	if s.Boot > 0 {
		list = append(list, bootIs(s.Boot))
	}
	for pod, at := range s.Pods {
		if at.State > 0 || at.Since > 0 {
			list = append(list, clockIs(at.Since), podIs(int64(pod), at.State))
		}
	}
	list = append(list, clockIs(s.Clock))
	for mount, at := range s.Mounts {
		if !at.Held {
			list = append(list, free(int64(mount)))
		}
		if at.Busy > 0 {
			list = append(list, busyIs(int64(mount), at.Busy))
		}
	}
	for device, held := range s.Devices {
		if !held {
			list = append(list, give(int64(device)))
		}
	}
	for _, who := range s.Locks {
		list = append(list, lockIs(who))
	}
	return append(list, bandIs(s.Band), lockByIs(s.LockBy), probeIs(s.Good, s.Probes))
}

// wantSnap checks that a snapshot has just these records, which fit into one
// frame, and that they make the state again of a new one.
func wantSnap(t *testing.T, name string, p impl.Plan, s impl.State, want ...impl.Rec) {
	t.Helper()
	got := impl.SnapOf(p, s)
	if !slices.Equal(got, want) {
		t.Errorf("%s: SnapOf is %v, not %v, of %+v", name, got, want, s)
	}
	made, ok := impl.AppliedAll(p, impl.NewState(p), got)
	if !ok || !equalStates(made, s) || !impl.SameState(made, s) {
		t.Errorf("%s: the snapshot %v makes %+v, %v, not %+v", name, got, made, ok, s)
	}
	if store, ok := impl.WithFrame(nil, got); !ok || len(store) == 0 {
		t.Errorf("%s: the snapshot %v is no frame", name, got)
	}
}

func wantAsPlainSnap(t *testing.T, name string, p impl.Plan, s impl.State) {
	t.Helper()
	wantSnap(t, name, p, s, plainSnap(p, s)...)
}

func wantNoSnap(t *testing.T, name string, p impl.Plan, s impl.State) {
	t.Helper()
	if got := impl.SnapOf(p, s); len(got) != 0 {
		t.Errorf("%s: SnapOf is %v, not nothing, of %+v", name, got, s)
	}
}

func TestPromise14ANewState(t *testing.T) {
	least := impl.Plan{Probes: 1, Tries: 1}
	nothing := []impl.Rec{{Kind: impl.RcClock}, {Kind: impl.RcBand}, {Kind: impl.RcLockBy}, {Kind: impl.RcProbe}}
	for _, p := range append(rightPlans(), least) {
		wantSnap(t, "a new one", p, impl.NewState(p), nothing...)
		wantSnap(t, "as a new one", p, plainNew(p), nothing...)
	}
	wantSnap(t, "of nothing, and empty", least, impl.State{
		Pods: []impl.PodAt{}, Mounts: []impl.MountAt{}, Devices: []bool{}, Locks: []int64{},
	}, nothing...)
	wantSnap(t, "of nothing", least, impl.State{Phase: 5, Cordon: true, Clock: 3, Boot: 2, Band: 6, LockBy: 9, Locks: []int64{4}, Probes: 1},
		phaseIs(5), bootIs(2), clockIs(3), lockIs(4), bandIs(6), lockByIs(9), probeIs(0, 1))
}

// A busy state in all its parts, in the order in which they are told.
func TestPromise14TheOrder(t *testing.T) {
	wantSnap(t, "in the middle of things", smallPlan(), busyState(),
		phaseIs(3), bootIs(7),
		clockIs(30), podIs(0, 2), clockIs(12), podIs(1, 4), clockIs(40),
		free(1), busyIs(2, 2), free(4), give(0), lockIs(1), lockIs(4), lockIs(6),
		bandIs(1), lockByIs(45), probeIs(2, 3))
	s := busyState()
	s.Pods[2], s.Mounts[0], s.Devices[2] = impl.PodAt{State: 0, Since: 99}, impl.MountAt{Held: true, Busy: 5}, false
	wantSnap(t, "and more of it", smallPlan(), s,
		phaseIs(3), bootIs(7),
		clockIs(30), podIs(0, 2), clockIs(12), podIs(1, 4), clockIs(99), podIs(2, 0), clockIs(40),
		busyIs(0, 5), free(1), busyIs(2, 2), free(4), give(0), give(2), lockIs(1), lockIs(4), lockIs(6),
		bandIs(1), lockByIs(45), probeIs(2, 3))
}

func TestPromise14EachPhase(t *testing.T) {
	for _, c := range planStates() {
		for phase := range int64(9) {
			s := inPhase(c.from, phase)
			want := plainSnap(c.plan, s)
			if told := len(want) > 0 && want[0] == phaseIs(phase); told != (phase != impl.PhIdle) {
				t.Errorf("the phase %d is told: %v", phase, told)
			}
			wantSnap(t, "each phase", c.plan, s, want...)
		}
	}
	p := smallPlan()
	wantSnap(t, "idle", p, inPhase(plainNew(p), 0), clockIs(0), bandIs(0), lockByIs(0), probeIs(0, 0))
	for phase := int64(1); phase < 9; phase++ {
		wantSnap(t, "each other one", p, inPhase(plainNew(p), phase), phaseIs(phase), clockIs(0), bandIs(0), lockByIs(0), probeIs(0, 0))
	}
}

// An idle machine keeps who holds a lock, and what its last probes were, though
// a record of PhIdle would make it forget both.
func TestPromise14IdleWithLocksAndProbes(t *testing.T) {
	p, s := smallPlan(), inPhase(busyState(), impl.PhIdle)
	wantSnap(t, "idle, and much has happened", p, s,
		bootIs(7), clockIs(30), podIs(0, 2), clockIs(12), podIs(1, 4), clockIs(40),
		free(1), busyIs(2, 2), free(4), give(0), lockIs(1), lockIs(4), lockIs(6),
		bandIs(1), lockByIs(45), probeIs(2, 3))
}

func TestPromise14TheNumbers(t *testing.T) {
	p := smallPlan()
	for _, n := range append(fieldEdges(), 2, 6, 7, 40) {
		s := plainNew(p)
		s.Boot = n
		if n == 0 {
			wantSnap(t, "no boot", p, s, clockIs(0), bandIs(0), lockByIs(0), probeIs(0, 0))
		} else {
			wantSnap(t, "a boot", p, s, bootIs(n), clockIs(0), bandIs(0), lockByIs(0), probeIs(0, 0))
		}
		s = plainNew(p)
		s.Clock = n
		wantSnap(t, "the clock", p, s, clockIs(n), bandIs(0), lockByIs(0), probeIs(0, 0))
		s = plainNew(p)
		s.LockBy = n
		wantSnap(t, "the time of the locks", p, s, clockIs(0), bandIs(0), lockByIs(n), probeIs(0, 0))
	}
	for band := range int64(7) {
		s := plainNew(p)
		s.Band = band
		wantSnap(t, "each band, and none any more", p, s, clockIs(0), bandIs(band), lockByIs(0), probeIs(0, 0))
	}
	for probes := range int64(31) {
		for good := range probes + 1 {
			s := probed(fullPlan(), impl.PhChecking, good, probes)
			wantSnap(t, "good ones and probes", fullPlan(), s, phaseIs(7), clockIs(0), bandIs(0), lockByIs(0), probeIs(good, probes))
		}
	}
}

// wantPodTold checks of a pod alone, and of it as the first, the middle and the
// last of three new ones, that it is told so.
func wantPodTold(t *testing.T, at impl.PodAt, clock int64, told ...impl.Rec) {
	t.Helper()
	for _, count := range []int{1, 3} {
		p := inBands(make([]int64, count)...)
		for pod := range count {
			s := plainNew(p)
			s.Pods[pod], s.Clock = at, clock
			want := slices.Clone(told)
			for i := range want {
				if want[i].Kind == impl.RcPod {
					want[i].A = int64(pod)
				}
			}
			wantSnap(t, "a pod", p, s, append(want, clockIs(clock), bandIs(0), lockByIs(0), probeIs(0, 0))...)
		}
	}
}

func TestPromise14EachPod(t *testing.T) {
	for _, clock := range []int64{0, 1, 40, 1000000} {
		wantPodTold(t, impl.PodAt{State: impl.PdRunning}, clock)
		for _, since := range []int64{1, 39, 40, 41, 127, 128, 999999, 1000000} {
			for state := range int64(7) {
				wantPodTold(t, impl.PodAt{State: state, Since: since}, clock, clockIs(since), podIs(0, state))
			}
		}
		for state := int64(1); state < 7; state++ {
			wantPodTold(t, impl.PodAt{State: state}, clock, clockIs(0), podIs(0, state))
		}
	}
}

// Each pod has its own clock ahead of it, also where that goes back, or is the
// one of the pod ahead; the Clock is told behind all of them.
func TestPromise14TheClockOfEachPod(t *testing.T) {
	p := inBands(0, 0, 0, 0)
	end := []impl.Rec{bandIs(0), lockByIs(0), probeIs(0, 0)}
	wantClocks := func(name string, clock int64, pods []impl.PodAt, told ...impl.Rec) {
		t.Helper()
		s := plainNew(p)
		copy(s.Pods, pods)
		s.Clock = clock
		wantSnap(t, name, p, s, append(append(told, clockIs(clock)), end...)...)
	}
	wantClocks("the later one is since earlier", 30, []impl.PodAt{{State: 2, Since: 20}, {State: 4, Since: 5}},
		clockIs(20), podIs(0, 2), clockIs(5), podIs(1, 4))
	wantClocks("both are since the same", 30, []impl.PodAt{{State: 2, Since: 20}, {State: 4, Since: 20}},
		clockIs(20), podIs(0, 2), clockIs(20), podIs(1, 4))
	wantClocks("both are since now", 30, []impl.PodAt{{State: 2, Since: 30}, {State: 2, Since: 30}},
		clockIs(30), podIs(0, 2), clockIs(30), podIs(1, 2))
	wantClocks("both are since then", 0, []impl.PodAt{{State: 5}, {State: 6}},
		clockIs(0), podIs(0, 5), clockIs(0), podIs(1, 6))
	wantClocks("the clock is 0", 0, []impl.PodAt{{State: 3, Since: 8}}, clockIs(8), podIs(0, 3))
	wantClocks("the clock is behind them", 7, []impl.PodAt{{State: 3, Since: 8}, {State: 0, Since: 1000000}},
		clockIs(8), podIs(0, 3), clockIs(1000000), podIs(1, 0))
	wantClocks("behind ones that are not told", 30, []impl.PodAt{{}, {State: 1, Since: 9}, {}, {State: 4}},
		clockIs(9), podIs(1, 1), clockIs(0), podIs(3, 4))
	wantClocks("ahead of ones that are not told", 30, []impl.PodAt{{State: 0, Since: 1}, {}, {State: 6, Since: 2}},
		clockIs(1), podIs(0, 0), clockIs(2), podIs(2, 6))
	wantClocks("they go back one by one", 1, []impl.PodAt{{State: 4, Since: 4}, {State: 4, Since: 3}, {State: 4, Since: 2}, {State: 4}},
		clockIs(4), podIs(0, 4), clockIs(3), podIs(1, 4), clockIs(2), podIs(2, 4), clockIs(0), podIs(3, 4))
}

func TestPromise14Mounts(t *testing.T) {
	p := mountsPlan(-1, 0, 0, -1)
	wantMounts := func(name string, mounts []impl.MountAt, told ...impl.Rec) {
		t.Helper()
		s := plainNew(p)
		s.Mounts = mounts
		want := append([]impl.Rec{clockIs(0)}, told...)
		wantSnap(t, name, p, s, append(want, bandIs(0), lockByIs(0), probeIs(0, 0))...)
	}
	held := impl.MountAt{Held: true}
	wantMounts("all are held", []impl.MountAt{held, held, held, held})
	wantMounts("none is held", make([]impl.MountAt, 4), free(0), free(1), free(2), free(3))
	for mount := range int64(4) {
		mounts := slices.Repeat([]impl.MountAt{held}, 4)
		mounts[mount] = impl.MountAt{}
		wantMounts("one is not held", mounts, free(mount))
		for busy := int64(1); busy <= 5; busy++ {
			mounts[mount] = impl.MountAt{Held: true, Busy: busy}
			wantMounts("one is busy", mounts, busyIs(mount, busy))
			alone := make([]impl.MountAt, 4)
			alone[mount] = mounts[mount]
			want := []impl.Rec{free(0), free(1), free(2), free(3)}
			want[mount] = busyIs(mount, busy)
			wantMounts("one is busy, the others are not held", alone, want...)
		}
	}
	wantMounts("in order", []impl.MountAt{{Held: true, Busy: 5}, {}, held, {Held: true, Busy: 1}}, busyIs(0, 5), free(1), busyIs(3, 1))
	wantMounts("in order", []impl.MountAt{{}, {Held: true, Busy: 1}, {Held: true, Busy: 2}, {}}, free(0), busyIs(1, 1), busyIs(2, 2), free(3))
}

func TestPromise14Devices(t *testing.T) {
	p := smallPlan()
	for set := range 8 {
		s := plainNew(p)
		want := []impl.Rec{clockIs(0)}
		for device := range int64(3) {
			if set>>device&1 == 1 {
				s.Devices[device] = false
				want = append(want, give(device))
			}
		}
		wantSnap(t, "each set of devices", p, s, append(want, bandIs(0), lockByIs(0), probeIs(0, 0))...)
	}
}

func TestPromise14Locks(t *testing.T) {
	for set := range 256 {
		for _, from := range []impl.State{plainNew(smallPlan()), busyState()} {
			from.Locks = locksOf(set)
			wantAsPlainSnap(t, "each set of locks", smallPlan(), from)
		}
		s := plainNew(smallPlan())
		s.Locks = locksOf(set)
		want := []impl.Rec{clockIs(0)}
		for _, who := range s.Locks {
			want = append(want, lockIs(who))
		}
		wantSnap(t, "each set of locks", smallPlan(), s, append(want, bandIs(0), lockByIs(0), probeIs(0, 0))...)
	}
}

// All is told of the greatest plan: 12 pods, mounts and devices, and 8 locks.
func TestPromise14AllThatCanBeTold(t *testing.T) {
	p, s := fullPlan(), edgeState()
	clear(s.Devices)
	want := []impl.Rec{phaseIs(8), bootIs(1000000)}
	for pod := range int64(12) {
		s.Pods[pod] = impl.PodAt{State: (pod + 1) % 7, Since: 1000000 - pod}
		want = append(want, clockIs(1000000-pod), podIs(pod, (pod+1)%7))
	}
	want = append(want, clockIs(1000000))
	for mount := range int64(12) {
		if mount%2 == 0 {
			s.Mounts[mount] = impl.MountAt{}
			want = append(want, free(mount))
		} else {
			want = append(want, busyIs(mount, 5))
		}
	}
	for device := range int64(12) {
		want = append(want, give(device))
	}
	for who := range int64(8) {
		want = append(want, lockIs(who))
	}
	want = append(want, bandIs(6), lockByIs(1000000), probeIs(30, 30))
	if len(want) != 62 {
		t.Fatalf("it is told in %d records", len(want))
	}
	wantSnap(t, "all of it", p, s, want...)
	wantAsPlainSnap(t, "at its limits", p, edgeState())
	wantAsPlainSnap(t, "nothing is left", p, behindBoot(edgeState(), 1000000))
}

func TestPromise14StatesThatAreNotRight(t *testing.T) {
	for name, spoil := range stateSpoils() {
		for _, c := range planStates() {
			for phase := range int64(9) {
				s := inPhase(ownState(c.from), phase)
				spoil(&s)
				wantNoSnap(t, name, c.plan, s)
			}
		}
	}
	wantNoSnap(t, "the zero state", smallPlan(), impl.State{})
	wantNoSnap(t, "of another plan", fullPlan(), busyState())
	wantNoSnap(t, "of another plan", smallPlan(), edgeState())
	s := busyState()
	s.Mounts[1].Busy = 1
	wantNoSnap(t, "busy and not held", smallPlan(), s)
	s = busyState()
	s.Pods[1].Since = -1
	wantNoSnap(t, "since below 0", smallPlan(), s)
	s = busyState()
	s.Pods[2].State = 7
	wantNoSnap(t, "no state of a pod", smallPlan(), s)
}

func TestPromise14PlansThatAreNotRight(t *testing.T) {
	for name, spoil := range wrongPlans() {
		p := smallPlan()
		spoil(&p)
		wantNoSnap(t, name+", one that would fit", p, plainNew(p))
		wantNoSnap(t, name+", one that did fit", p, busyState())
		wantNoSnap(t, name+", the zero state", p, impl.State{})
	}
	wantNoSnap(t, "the zero plan", impl.Plan{}, impl.State{})
}

func TestPromise14MadeStates(t *testing.T) {
	for i, p := range rightPlans() {
		for phase := range int64(9) {
			s := inPhase(madeState(p, int64(i)*9+phase+7000), phase)
			wantAsPlainSnap(t, "a made one", p, s)
			// Some of it is as it is new, so that it is not told.
			for j := range s.Pods {
				if (int64(i)+int64(j)+phase)%3 == 0 {
					s.Pods[j] = impl.PodAt{}
				}
			}
			s.Boot, s.Clock = s.Boot*(phase%2), s.Clock*(int64(i)%2)
			wantAsPlainSnap(t, "a made one, in part as a new one", p, s)
		}
	}
}

// Orders as they come: behind each of them the snapshot makes what the machine
// has come to, whatever that is.
func TestPromise14BehindEachOrder(t *testing.T) {
	phases := map[int64]int{}
	for seed := range int64(60) {
		draw := func(below int64) int64 {
			seed = (seed*1103515245 + 12345) % (1 << 31)
			return seed / 65536 % below
		}
		p := smallPlan()
		p.Mins[0], p.LockMax = draw(3), draw(4)
		for pod := range p.Pods {
			p.Pods[pod].Hook, p.Pods[pod].Grace = draw(3), draw(3)
		}
		s := plainNew(p)
		for range 300 {
			o := drawnOrder(draw)
			if s.Phase < impl.PhReboot && (o.Kind == impl.OdCancel || o.Kind == impl.OdBoot) && draw(8) > 0 {
				continue
			}
			recs, _ := impl.Planned(p, s, o)
			s, _ = impl.AppliedAll(p, s, recs)
			wantAsPlainSnap(t, "behind an order", p, s)
			phases[s.Phase]++
		}
	}
	for phase := range int64(9) {
		if phases[phase] < 30 {
			t.Errorf("only %d are in phase %d", phases[phase], phase)
		}
	}
}
