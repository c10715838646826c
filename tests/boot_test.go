package tests

import (
	"math"
	"slices"
	"testing"

	"loop.example/g00767/impl"
)

// bootIs, unlock and probeIs are what may come of a boot beside those records
// that may come of a tick; probeIs comes of a probe too.
func bootIs(id int64) impl.Rec            { return impl.Rec{Kind: 10, A: id} }
func unlock(who int64) impl.Rec           { return impl.Rec{Kind: 7, A: who} }
func probeIs(good, probes int64) impl.Rec { return impl.Rec{Kind: 12, A: good, B: probes} }

// behindBoot is what s is behind a boot, however much of it was given up.
func behindBoot(s impl.State, id int64) impl.State {
	made := ownState(s)
	made.Boot, made.Good, made.Probes, made.Locks = id, 0, 0, nil
	for pod, at := range s.Pods {
		if at.State <= 3 {
			made.Pods[pod] = impl.PodAt{State: 5, Since: s.Clock}
		}
	}
	clear(made.Mounts)
	clear(made.Devices)
	if s.Phase != 8 {
		made.Phase, made.Cordon = 6, true
	}
	return made
}

// wantMade checks that just these records are answered, and that they make a
// right state; it answers that.
func wantMade(t *testing.T, name string, p impl.Plan, s impl.State, got []impl.Rec, code int64, want []impl.Rec) impl.State {
	t.Helper()
	if code != impl.CdOk || !slices.Equal(got, want) {
		t.Errorf("%s: it answers %v, %d, not %v, of %+v", name, got, code, want, s)
		return s
	}
	made, ok := impl.AppliedAll(p, s, got)
	if !ok || !impl.StateOk(p, made) {
		t.Errorf("%s: the records %v make %+v, %v of %+v", name, got, made, ok, s)
	}
	return made
}

// wantBoot checks that a boot has just these records, and that behind them
// nothing is alive and nothing is held; it answers that state.
func wantBoot(t *testing.T, name string, p impl.Plan, s impl.State, id int64, want ...impl.Rec) impl.State {
	t.Helper()
	got, code := impl.BootRecs(p, s, id)
	made := wantMade(t, name, p, s, got, code, want)
	if !equalStates(made, behindBoot(s, id)) {
		t.Errorf("%s: behind the boot %d it is %+v, and was %+v", name, id, made, s)
	}
	if len(impl.LiveIn(made)) != 0 || heldMounts(made) != 0 || slices.Contains(made.Devices, true) || len(made.Locks) != 0 {
		t.Errorf("%s: behind the boot %d something is alive or held: %+v", name, id, made)
	}
	return made
}

// wantNoBoot checks of these ids that there is no boot, for this reason.
func wantNoBoot(t *testing.T, name string, p impl.Plan, s impl.State, code int64, ids ...int64) {
	t.Helper()
	for _, id := range ids {
		if list, got := impl.BootRecs(p, s, id); got != code || len(list) != 0 {
			t.Errorf("%s: BootRecs of %d is %v, %d, not nothing and %d, of %+v", name, id, list, got, code, s)
		}
	}
}

// wantProbe checks that a probe has just these records; it answers the state
// that they make.
func wantProbe(t *testing.T, name string, p impl.Plan, s impl.State, good bool, want ...impl.Rec) impl.State {
	t.Helper()
	got, code := impl.ProbeRecs(p, s, good)
	return wantMade(t, name, p, s, got, code, want)
}

// wantNoProbe checks that there is neither a good nor an ill probe, for this
// reason.
func wantNoProbe(t *testing.T, name string, p impl.Plan, s impl.State, code int64) {
	t.Helper()
	for _, good := range []bool{true, false} {
		if list, got := impl.ProbeRecs(p, s, good); got != code || len(list) != 0 {
			t.Errorf("%s: ProbeRecs of %v is %v, %d, not nothing and %d, of %+v", name, good, list, got, code, s)
		}
	}
}

// plainBoot and plainProbe are the document's chapter, sentence by sentence.
func plainBoot(p impl.Plan, s impl.State, id int64) ([]impl.Rec, int64) {
	if !impl.StateOk(p, s) || id < 1 || id > 1000000 {
		return nil, 1
	}
	if id == s.Boot {
		return nil, 6
	}
	list := []impl.Rec{bootIs(id)}
	for pod, at := range s.Pods {
		if at.State <= 3 {
			list = append(list, podIs(int64(pod), 5))
		}
	}
	for mount, at := range s.Mounts {
		if at.Held {
			list = append(list, free(int64(mount)))
		}
	}
	for device, held := range s.Devices {
		if held {
			list = append(list, give(int64(device)))
		}
	}
	for _, who := range s.Locks {
		list = append(list, unlock(who))
	}
	list = append(list, probeIs(0, 0))
	if s.Phase != 8 {
		list = append(list, phaseIs(6))
	}
	return list, 0
}

func plainProbe(p impl.Plan, s impl.State, good bool) ([]impl.Rec, int64) {
	if !impl.StateOk(p, s) {
		return nil, 1
	}
	if s.Phase < 6 || s.Phase > 7 {
		return nil, 3
	}
	r := probeIs(0, s.Probes+1)
	if good {
		r.A = s.Good + 1
	}
	if r.A >= p.Probes {
		return []impl.Rec{r, phaseIs(0)}, 0
	}
	if r.B >= p.Tries {
		return []impl.Rec{r, phaseIs(8)}, 0
	}
	if s.Phase == 6 {
		return []impl.Rec{r, phaseIs(7)}, 0
	}
	return []impl.Rec{r}, 0
}

// wantAsPlainBoot answers the state that is left.
func wantAsPlainBoot(t *testing.T, name string, p impl.Plan, s impl.State, id int64) impl.State {
	t.Helper()
	want, code := plainBoot(p, s, id)
	if code != impl.CdOk {
		wantNoBoot(t, name, p, s, code, id)
		return s
	}
	return wantBoot(t, name, p, s, id, want...)
}

// wantAsPlainProbe answers the state that is left.
func wantAsPlainProbe(t *testing.T, name string, p impl.Plan, s impl.State, good bool) impl.State {
	t.Helper()
	want, code := plainProbe(p, s, good)
	if code != impl.CdOk {
		wantNoProbe(t, name, p, s, code)
		return s
	}
	return wantProbe(t, name, p, s, good, want...)
}

// inPhase is s in that phase, cordoned where that is not PhIdle.
func inPhase(s impl.State, phase int64) impl.State {
	s.Phase, s.Cordon = phase, phase != impl.PhIdle
	return s
}

// probed is a new state of p in that phase, of so many probes of which the last
// good ones were good.
func probed(p impl.Plan, phase, good, probes int64) impl.State {
	s := inPhase(plainNew(p), phase)
	s.Good, s.Probes = good, probes
	return s
}

// probesPlan has nothing but how many probes must be good, and how many may be.
func probesPlan(probes, tries int64) impl.Plan {
	return impl.Plan{Probes: probes, Tries: tries}
}

func TestPromise12BootEachPhase(t *testing.T) {
	given := []impl.Rec{bootIs(9), podIs(0, 5), podIs(2, 5), free(0), free(2), free(3), give(1), give(2),
		unlock(1), unlock(4), unlock(6), probeIs(0, 0)}
	for phase := range int64(9) {
		s := inPhase(busyState(), phase)
		if phase == impl.PhFailed {
			made := wantBoot(t, "it has failed", smallPlan(), s, 9, given...)
			if made.Phase != impl.PhFailed || !made.Cordon {
				t.Errorf("it is %+v behind a boot, and had failed", made)
			}
			continue
		}
		made := wantBoot(t, "it has not failed", smallPlan(), s, 9, append(given, phaseIs(impl.PhBooted))...)
		if made.Phase != impl.PhBooted || !made.Cordon || made.Boot != 9 {
			t.Errorf("it is %+v behind a boot in phase %d", made, phase)
		}
	}
}

// A state that is cordoned just where it should not be is none.
func TestPromise12BootWhetherCordonedOrNot(t *testing.T) {
	for phase := range int64(9) {
		for _, cordon := range []bool{true, false} {
			s := busyState()
			s.Phase, s.Cordon = phase, cordon
			if cordon == (phase != impl.PhIdle) {
				wantAsPlainBoot(t, "as it should be", smallPlan(), s, 9)
				wantNoBoot(t, "as it should be", smallPlan(), s, impl.CdSame, 7)
			} else {
				wantNoBoot(t, "as it should not be", smallPlan(), s, impl.CdBad, 9, 7)
			}
		}
	}
	idle := inPhase(plainNew(smallPlan()), impl.PhIdle)
	idle.Cordon = true
	wantNoBoot(t, "idle and cordoned", smallPlan(), idle, impl.CdBad, 0, 1, 1000000)
	idle.Cordon = false
	wantAsPlainBoot(t, "idle and not cordoned", smallPlan(), idle, 1)
}

func TestPromise12BootIds(t *testing.T) {
	none := probesPlan(1, 1)
	ids := slices.Concat(someNumbers(), fieldEdges(), wrongFields(), notNumbers(), []int64{-1, 0, 1, 999999, 1000000, 1000001})
	for phase := range int64(9) {
		for _, boot := range []int64{0, 1, 2, 128, 999999, 1000000} {
			s := inPhase(impl.State{Boot: boot}, phase)
			for _, id := range ids {
				switch {
				case id < 1 || id > 1000000:
					wantNoBoot(t, "no id", none, s, impl.CdBad, id)
				case id == boot:
					wantNoBoot(t, "the same id", none, s, impl.CdSame, id)
				case phase == impl.PhFailed:
					wantBoot(t, "another id", none, s, id, bootIs(id), probeIs(0, 0))
				default:
					wantBoot(t, "another id", none, s, id, bootIs(id), probeIs(0, 0), phaseIs(6))
				}
			}
		}
	}
	wantNoBoot(t, "0, and it is Boot", smallPlan(), plainNew(smallPlan()), impl.CdBad, 0)
	wantNoBoot(t, "at the limit", fullPlan(), edgeState(), impl.CdSame, 1000000)
}

// The same boot told again gives nothing up, whatever has come since.
func TestPromise12TheSameBoot(t *testing.T) {
	for phase := range int64(9) {
		s := inPhase(busyState(), phase)
		wantNoBoot(t, "much is alive and held", smallPlan(), s, impl.CdSame, 7)
		for _, id := range []int64{6, 8} {
			made := wantAsPlainBoot(t, "another one", smallPlan(), s, id)
			wantNoBoot(t, "it again", smallPlan(), made, impl.CdSame, id)
			made = wantAsPlainBoot(t, "the first one again", smallPlan(), made, 7)
			wantNoBoot(t, "it again", smallPlan(), made, impl.CdSame, 7)
		}
	}
}

func TestPromise12BootPodsInEachState(t *testing.T) {
	for state := range int64(7) {
		for pod := range int64(12) {
			p := fullPlan()
			p.Mounts, p.Devices = nil, nil
			s := inPhase(plainNew(p), impl.PhReboot)
			for i := range s.Pods {
				s.Pods[i] = impl.PodAt{State: impl.PdStopped + int64(i)%3, Since: int64(i)}
			}
			s.Clock, s.Pods[pod] = 77, impl.PodAt{State: state, Since: 30}
			made, want := s, impl.PodAt{State: state, Since: 30}
			if impl.Alive(state) {
				made = wantBoot(t, "it is alive", p, s, 3, bootIs(3), podIs(pod, impl.PdFailed), probeIs(0, 0), phaseIs(6))
				want = impl.PodAt{State: impl.PdFailed, Since: 77}
			} else {
				made = wantBoot(t, "it is not alive", p, s, 3, bootIs(3), probeIs(0, 0), phaseIs(6))
			}
			if made.Pods[pod] != want {
				t.Errorf("pod %d was %d and is %+v", pod, state, made.Pods[pod])
			}
		}
	}
	p := inBands(5, 4, 3, 2, 1, 0, 0)
	s := shutting(p, 3, 0, 1, 2, 3, 4, 5, 6)
	wantBoot(t, "one in each state", p, s, 1, bootIs(1), podIs(0, 5), podIs(1, 5), podIs(2, 5), podIs(3, 5), probeIs(0, 0), phaseIs(6))
	slices.Reverse(s.Pods)
	wantBoot(t, "one in each state, the last one first", p, s, 1, bootIs(1), podIs(3, 5), podIs(4, 5), podIs(5, 5), podIs(6, 5),
		probeIs(0, 0), phaseIs(6))
}

func TestPromise12BootWhereNothingIsThere(t *testing.T) {
	for phase := range int64(8) {
		s := inPhase(impl.State{Band: 6}, phase)
		wantBoot(t, "nothing", probesPlan(1, 1), s, 5, bootIs(5), probeIs(0, 0), phaseIs(6))
		wantBoot(t, "groups alone", groupsPlan([]int64{0, 12}), s, 5, bootIs(5), probeIs(0, 0), phaseIs(6))
		s.Locks = []int64{2}
		wantBoot(t, "a lock alone", probesPlan(1, 1), s, 5, bootIs(5), unlock(2), probeIs(0, 0), phaseIs(6))
	}
	p := inBands(2, 2)
	wantBoot(t, "pods alone", p, shutting(p, 2), 5, bootIs(5), podIs(0, 5), podIs(1, 5), probeIs(0, 0), phaseIs(6))
	p = mountsPlan(-1, 0)
	wantBoot(t, "no pod is alive", p, ended(p), 5, bootIs(5), free(0), free(1), give(0), give(1), probeIs(0, 0), phaseIs(6))
	p.Devices = nil
	wantBoot(t, "no devices", p, ended(p), 5, bootIs(5), free(0), free(1), probeIs(0, 0), phaseIs(6))
	wantBoot(t, "one mount is held", p, ended(p, 0), 5, bootIs(5), free(1), probeIs(0, 0), phaseIs(6))
	wantBoot(t, "no mount is held", p, ended(p, 0, 1), 5, bootIs(5), probeIs(0, 0), phaseIs(6))
}

// What is held is given up from the first number on, not from the innermost on;
// how busy it is, and what lies in or on it, is no matter.
func TestPromise12BootWhatIsHeld(t *testing.T) {
	p := mountsPlan(-1, 0, 1)
	for set := range 64 {
		for _, busy := range []int64{0, 1, 5} {
			for _, state := range []int64{impl.PdRunning, impl.PdKill, impl.PdStopped} {
				s, recs := ended(p), []impl.Rec{bootIs(4)}
				for pod := range s.Pods {
					s.Pods[pod].State = state
					if impl.Alive(state) {
						recs = append(recs, podIs(int64(pod), 5))
					}
				}
				for i := range int64(3) {
					s.Mounts[i], s.Devices[i] = impl.MountAt{}, set>>(3+i)&1 == 1
					if set>>i&1 == 1 {
						s.Mounts[i], recs = impl.MountAt{Held: true, Busy: busy}, append(recs, free(i))
					}
				}
				for i, held := range s.Devices {
					if held {
						recs = append(recs, give(int64(i)))
					}
				}
				wantBoot(t, "some are held", p, s, 4, append(recs, probeIs(0, 0), phaseIs(6))...)
			}
		}
	}
	for n := range int64(12) {
		s := ended(fullPlan())
		clear(s.Mounts)
		clear(s.Devices)
		s.Mounts[n].Held = true
		wantBoot(t, "one mount", fullPlan(), s, 4, bootIs(4), free(n), probeIs(0, 0), phaseIs(6))
		s.Mounts[n].Held, s.Devices[n] = false, true
		wantBoot(t, "one device", fullPlan(), s, 4, bootIs(4), give(n), probeIs(0, 0), phaseIs(6))
	}
}

func TestPromise12BootLocks(t *testing.T) {
	for set := range 256 {
		for phase := range int64(9) {
			s := inPhase(impl.State{LockBy: 500}, phase)
			s.Locks = locksOf(set)
			recs := []impl.Rec{bootIs(8)}
			for _, who := range s.Locks {
				recs = append(recs, unlock(who))
			}
			recs = append(recs, probeIs(0, 0))
			if phase != impl.PhFailed {
				recs = append(recs, phaseIs(6))
			}
			if made := wantBoot(t, "some hold locks", probesPlan(1, 1), s, 8, recs...); made.LockBy != 500 {
				t.Errorf("LockBy is %d behind a boot", made.LockBy)
			}
		}
	}
}

// As much as can be is given up, in order, and it still goes into one frame.
func TestPromise12BootAllAtOnce(t *testing.T) {
	for phase := range int64(9) {
		s := inPhase(edgeState(), phase)
		recs := []impl.Rec{bootIs(999999)}
		for pod := range int64(12) {
			s.Pods[pod].State = pod % 4
			recs = append(recs, podIs(pod, 5))
		}
		for mount := range int64(12) {
			recs = append(recs, free(mount))
		}
		for device := range int64(12) {
			recs = append(recs, give(device))
		}
		for who := range int64(8) {
			recs = append(recs, unlock(who))
		}
		recs = append(recs, probeIs(0, 0))
		if phase != impl.PhFailed {
			recs = append(recs, phaseIs(6))
		}
		wantBoot(t, "all at once", fullPlan(), s, 999999, recs...)
		if _, ok := impl.Framed(recs); !ok {
			t.Errorf("%d records have no frame", len(recs))
		}
	}
}

// Neither the clock nor what else is told of the shut is another one.
func TestPromise12BootWhatStays(t *testing.T) {
	for phase := range int64(9) {
		s := inPhase(edgeState(), phase)
		made := wantAsPlainBoot(t, "at the limits", fullPlan(), s, 1)
		if made.Clock != 1000000 || made.Band != 6 || made.LockBy != 1000000 || !slices.Equal(made.Pods, s.Pods) {
			t.Errorf("it is %+v behind a boot", made)
		}
		if made.Good != 0 || made.Probes != 0 || made.Boot != 1 {
			t.Errorf("it is %+v behind a boot", made)
		}
	}
}

// Where all was given up, another boot tells no more of it.
func TestPromise12BootAfterBoot(t *testing.T) {
	for phase := range int64(9) {
		s := wantAsPlainBoot(t, "the first one", smallPlan(), inPhase(busyState(), phase), 8)
		for id := int64(9); id < 12; id++ {
			if phase == impl.PhFailed {
				s = wantBoot(t, "another one", smallPlan(), s, id, bootIs(id), probeIs(0, 0))
			} else {
				s = wantBoot(t, "another one", smallPlan(), s, id, bootIs(id), probeIs(0, 0), phaseIs(6))
			}
		}
	}
}

// What is not right has no boot, whatever the id is.
func TestPromise12BootStatesThatAreNotRight(t *testing.T) {
	for phase := range int64(9) {
		for name, spoil := range stateSpoils() {
			s := inPhase(busyState(), phase)
			spoil(&s)
			wantNoBoot(t, name, smallPlan(), s, impl.CdBad, -1, 0, 1, 7, s.Boot, 1000000, 1000001)
		}
	}
	for name, spoil := range stateSpoils() {
		s := edgeState()
		spoil(&s)
		wantNoBoot(t, name, fullPlan(), s, impl.CdBad, 0, 1, 999999, 1000000, s.Boot)
	}
	for _, boot := range []int64{math.MinInt64, -1, 1000001, math.MaxInt64} {
		s := busyState()
		s.Boot = boot
		wantNoBoot(t, "a boot that is none", smallPlan(), s, impl.CdBad, boot, 1, 7)
	}
	wantNoBoot(t, "the zero state", smallPlan(), impl.State{}, impl.CdBad, 0, 1)
	wantNoBoot(t, "of another plan", smallPlan(), edgeState(), impl.CdBad, 1, 1000000)
	wantNoBoot(t, "of another plan", fullPlan(), busyState(), impl.CdBad, 1, 7)
}

func TestPromise12PlansThatAreNotRight(t *testing.T) {
	for name, spoil := range wrongPlans() {
		for phase := range int64(9) {
			p := smallPlan()
			spoil(&p)
			fits := plainNew(p)
			fits.Boot = 7
			for _, s := range []impl.State{busyState(), fits} {
				s = inPhase(s, phase)
				wantNoBoot(t, name, p, s, impl.CdBad, -1, 0, 1, 7, 1000000, 1000001)
				wantNoProbe(t, name, p, s, impl.CdBad)
			}
		}
	}
	wantNoBoot(t, "the zero plan", impl.Plan{}, impl.State{}, impl.CdBad, 0, 1)
	wantNoProbe(t, "the zero plan", impl.Plan{}, inPhase(impl.State{}, impl.PhBooted), impl.CdBad)
}

func TestPromise12BootMadeStates(t *testing.T) {
	for seed := range int64(500) {
		p := madePlan(seed)
		s := madeState(p, seed+4000)
		for phase := range int64(9) {
			s = inPhase(s, phase)
			for _, id := range []int64{0, 1, s.Boot - 1, s.Boot, s.Boot + 1, 1000000, 1000001, seed * 1999} {
				wantAsPlainBoot(t, "a made one", p, s, id)
			}
		}
	}
}

func TestPromise12ProbeEachPhase(t *testing.T) {
	for phase := range int64(9) {
		for _, s := range []impl.State{inPhase(busyState(), phase), probed(smallPlan(), phase, 0, 0), probed(smallPlan(), phase, 1, 4)} {
			if phase != impl.PhBooted && phase != impl.PhChecking {
				wantNoProbe(t, "not now", smallPlan(), s, impl.CdPhase)
			} else {
				wantAsPlainProbe(t, "now", smallPlan(), s, true)
				wantAsPlainProbe(t, "now", smallPlan(), s, false)
			}
		}
		if phase != impl.PhBooted && phase != impl.PhChecking {
			wantNoProbe(t, "not now, at the limits", fullPlan(), inPhase(edgeState(), phase), impl.CdPhase)
		}
	}
}

func TestPromise12ProbeStatesThatAreNotRight(t *testing.T) {
	for phase := range int64(9) {
		for name, spoil := range stateSpoils() {
			s := inPhase(busyState(), phase)
			spoil(&s)
			wantNoProbe(t, name, smallPlan(), s, impl.CdBad)
			s = inPhase(edgeState(), phase)
			spoil(&s)
			wantNoProbe(t, name, fullPlan(), s, impl.CdBad)
		}
		s := probed(smallPlan(), phase, 1, 2)
		s.Cordon = !s.Cordon
		wantNoProbe(t, "cordoned where it should not be, or not", smallPlan(), s, impl.CdBad)
		wantNoProbe(t, "more good ones than probes", smallPlan(), probed(smallPlan(), phase, 3, 2), impl.CdBad)
		wantNoProbe(t, "more probes than tries", smallPlan(), probed(smallPlan(), phase, 0, 6), impl.CdBad)
	}
	wantNoProbe(t, "the zero state", smallPlan(), impl.State{}, impl.CdBad)
	wantNoProbe(t, "of another plan", smallPlan(), inPhase(edgeState(), impl.PhBooted), impl.CdBad)
	wantNoProbe(t, "of another plan", fullPlan(), inPhase(busyState(), impl.PhBooted), impl.CdBad)
}

func TestPromise12ProbeHowManyAreGood(t *testing.T) {
	p := probesPlan(3, 9)
	checking := func(good, probes int64) impl.State { return probed(p, impl.PhChecking, good, probes) }
	wantProbe(t, "the first one", p, checking(0, 4), true, probeIs(1, 5))
	wantProbe(t, "one is left", p, checking(1, 4), true, probeIs(2, 5))
	wantProbe(t, "just as many", p, checking(2, 4), true, probeIs(3, 5), phaseIs(0))
	wantProbe(t, "one more", p, checking(3, 4), true, probeIs(4, 5), phaseIs(0))
	wantProbe(t, "many more", p, checking(7, 7), true, probeIs(8, 8), phaseIs(0))
	for good := range int64(5) {
		wantProbe(t, "it is ill", p, checking(good, 4), false, probeIs(0, 5))
		wantProbe(t, "it is ill", p, probed(p, impl.PhBooted, good, 4), false, probeIs(0, 5), phaseIs(7))
	}
	wantProbe(t, "as many as can be", fullPlan(), probed(fullPlan(), 7, 7, 20), true, probeIs(8, 21))
	wantProbe(t, "as many as can be", fullPlan(), probed(fullPlan(), 7, 8, 20), true, probeIs(9, 21), phaseIs(0))
	for tries := int64(1); tries <= 3; tries++ {
		q := probesPlan(1, tries)
		wantProbe(t, "one is enough", q, probed(q, impl.PhBooted, 0, 0), true, probeIs(1, 1), phaseIs(0))
		wantProbe(t, "one is enough", q, probed(q, impl.PhChecking, 0, tries-1), true, probeIs(1, tries), phaseIs(0))
	}
}

func TestPromise12ProbeHowManyAtMost(t *testing.T) {
	p := probesPlan(2, 5)
	for _, phase := range []int64{impl.PhBooted, impl.PhChecking} {
		for good := range int64(3) {
			wantProbe(t, "the last one is ill", p, probed(p, phase, good, 4), false, probeIs(0, 5), phaseIs(8))
		}
		wantProbe(t, "the last one, good and not enough", p, probed(p, phase, 0, 4), true, probeIs(1, 5), phaseIs(8))
		// Both are so at once, and it is let in.
		wantProbe(t, "the last one, good and enough", p, probed(p, phase, 1, 4), true, probeIs(2, 5), phaseIs(0))
		wantProbe(t, "the last one, good and more", p, probed(p, phase, 4, 4), true, probeIs(5, 5), phaseIs(0))
	}
	wantProbe(t, "one is left", p, probed(p, impl.PhChecking, 0, 3), false, probeIs(0, 4))
	wantProbe(t, "one is left", p, probed(p, impl.PhChecking, 0, 3), true, probeIs(1, 4))
	wantProbe(t, "one is left", p, probed(p, impl.PhBooted, 0, 3), false, probeIs(0, 4), phaseIs(7))
	wantProbe(t, "one is left", p, probed(p, impl.PhBooted, 0, 3), true, probeIs(1, 4), phaseIs(7))
	one := probesPlan(1, 1)
	wantProbe(t, "the only one", one, probed(one, impl.PhBooted, 0, 0), false, probeIs(0, 1), phaseIs(8))
	wantProbe(t, "the only one", one, probed(one, impl.PhBooted, 0, 0), true, probeIs(1, 1), phaseIs(0))
	wantProbe(t, "at most", fullPlan(), probed(fullPlan(), 7, 0, 28), false, probeIs(0, 29))
	wantProbe(t, "at most", fullPlan(), probed(fullPlan(), 7, 0, 29), false, probeIs(0, 30), phaseIs(8))
	wantProbe(t, "at most", fullPlan(), probed(fullPlan(), 7, 7, 29), true, probeIs(8, 30), phaseIs(8))
	wantProbe(t, "at most", fullPlan(), probed(fullPlan(), 7, 8, 29), true, probeIs(9, 30), phaseIs(0))
}

// wantProbePastTries checks of a state from which no agent comes, the tries
// being spent already, that the records are as it is told; they are not true.
func wantProbePastTries(t *testing.T, p impl.Plan, s impl.State, good bool, want ...impl.Rec) {
	t.Helper()
	got, code := impl.ProbeRecs(p, s, good)
	if code != impl.CdOk || !slices.Equal(got, want) {
		t.Errorf("ProbeRecs of %v is %v, %d, not %v, of %+v", good, got, code, want, s)
	}
	if made, ok := impl.AppliedAll(p, s, got); ok || !equalStates(made, s) {
		t.Errorf("the records %v make %+v, %v of %+v", got, made, ok, s)
	}
}

func TestPromise12ProbeWhereTheTriesAreSpent(t *testing.T) {
	p := probesPlan(2, 5)
	for _, phase := range []int64{impl.PhBooted, impl.PhChecking} {
		wantProbePastTries(t, p, probed(p, phase, 0, 5), false, probeIs(0, 6), phaseIs(8))
		wantProbePastTries(t, p, probed(p, phase, 5, 5), false, probeIs(0, 6), phaseIs(8))
		wantProbePastTries(t, p, probed(p, phase, 0, 5), true, probeIs(1, 6), phaseIs(8))
		wantProbePastTries(t, p, probed(p, phase, 1, 5), true, probeIs(2, 6), phaseIs(0))
		wantProbePastTries(t, p, probed(p, phase, 5, 5), true, probeIs(6, 6), phaseIs(0))
		wantProbePastTries(t, fullPlan(), inPhase(edgeState(), phase), true, probeIs(31, 31), phaseIs(0))
		wantProbePastTries(t, fullPlan(), inPhase(edgeState(), phase), false, probeIs(0, 31), phaseIs(8))
	}
}

// From the first probe on it is checked, and that is told once.
func TestPromise12ProbeFromBootedToChecking(t *testing.T) {
	for _, good := range []bool{true, false} {
		p, n := probesPlan(9, 30), int64(0)
		if good {
			n = 1
		}
		s := wantProbe(t, "booted", p, probed(p, impl.PhBooted, 0, 0), good, probeIs(n, 1), phaseIs(7))
		if s.Phase != impl.PhChecking || !s.Cordon || s.Good != n || s.Probes != 1 {
			t.Errorf("it is %+v behind the first probe", s)
		}
		s = wantProbe(t, "checking", p, s, good, probeIs(2*n, 2))
		s = wantProbe(t, "checking", p, s, good, probeIs(3*n, 3))
		if s.Phase != impl.PhChecking || !s.Cordon || s.Good != 3*n || s.Probes != 3 {
			t.Errorf("it is %+v behind three probes", s)
		}
	}
}

// Who is alive, what is held, and by whom, is nothing to a probe, and stays;
// but to be let in gives up all locks.
func TestPromise12ProbeWhateverElseIs(t *testing.T) {
	for _, good := range []bool{true, false} {
		s := inPhase(busyState(), impl.PhChecking)
		want := ownState(s)
		want.Good, want.Probes = 0, 4
		recs := []impl.Rec{probeIs(0, 4)}
		if good {
			want.Phase, want.Cordon, want.Probes, want.Locks = 0, false, 0, nil
			recs = []impl.Rec{probeIs(3, 4), phaseIs(0)}
		}
		if made := wantProbe(t, "in the middle of things", smallPlan(), s, good, recs...); !equalStates(made, want) {
			t.Errorf("it is %+v then, not %+v", made, want)
		}
	}
}

// All plans' probes and tries, and all that was found so far.
func TestPromise12ProbeAllNumbers(t *testing.T) {
	for needed := int64(1); needed <= 9; needed++ {
		for tries := needed; tries <= 30; tries++ {
			p := probesPlan(needed, tries)
			for probes := range tries {
				for good := range probes + 1 {
					for _, phase := range []int64{impl.PhBooted, impl.PhChecking} {
						wantAsPlainProbe(t, "all numbers", p, probed(p, phase, good, probes), true)
						wantAsPlainProbe(t, "all numbers", p, probed(p, phase, good, probes), false)
					}
				}
			}
		}
	}
}

// A good one that is not the last, one that is not good, and then as many as
// are asked for.
func TestPromise12LetIn(t *testing.T) {
	p := smallPlan()
	p.Probes, p.Tries = 3, 8
	s := wantAsPlainBoot(t, "the boot", p, busyState(), 8)
	s = wantProbe(t, "1", p, s, true, probeIs(1, 1), phaseIs(7))
	s = wantProbe(t, "2", p, s, true, probeIs(2, 2))
	s = wantProbe(t, "3", p, s, false, probeIs(0, 3))
	s = wantProbe(t, "4", p, s, true, probeIs(1, 4))
	s = wantProbe(t, "5", p, s, true, probeIs(2, 5))
	if s.Phase != impl.PhChecking || !s.Cordon {
		t.Errorf("it is let in too soon: %+v", s)
	}
	s = wantProbe(t, "6", p, s, true, probeIs(3, 6), phaseIs(0))
	if s.Phase != impl.PhIdle || s.Cordon || s.Good != 0 || s.Probes != 0 || s.Boot != 8 {
		t.Errorf("it is not let in: %+v", s)
	}
	wantNoProbe(t, "it is in", p, s, impl.CdPhase)
	wantNoBoot(t, "it is in", p, s, impl.CdSame, 8)
	s = wantBoot(t, "another boot", p, s, 9, bootIs(9), probeIs(0, 0), phaseIs(6))
	wantProbe(t, "from the beginning on", p, s, true, probeIs(1, 1), phaseIs(7))
}

// In the middle of the probes another boot begins them anew.
func TestPromise12BootBetweenProbes(t *testing.T) {
	p := probesPlan(2, 3)
	s := wantAsPlainBoot(t, "the boot", p, plainNew(p), 1)
	for id := int64(2); id < 9; id++ {
		s = wantProbe(t, "ill", p, s, false, probeIs(0, 1), phaseIs(7))
		s = wantProbe(t, "good", p, s, true, probeIs(1, 2))
		s = wantBoot(t, "another boot", p, s, id, bootIs(id), probeIs(0, 0), phaseIs(6))
		if s.Phase != impl.PhBooted || !s.Cordon || s.Good != 0 || s.Probes != 0 {
			t.Errorf("it is %+v behind the boot %d", s, id)
		}
	}
}

func TestPromise12FoundIllTillTries(t *testing.T) {
	for tries := int64(1); tries <= 30; tries++ {
		p := smallPlan()
		p.Probes, p.Tries = min(tries, 9), tries
		s := wantAsPlainBoot(t, "the boot", p, plainNew(p), 3)
		for probes := int64(1); probes <= tries; probes++ {
			if s.Phase != impl.PhBooted && s.Phase != impl.PhChecking || !s.Cordon {
				t.Fatalf("it is %+v ahead of probe %d of %d", s, probes, tries)
			}
			s = wantAsPlainProbe(t, "it is ill", p, s, false)
		}
		if s.Phase != impl.PhFailed || !s.Cordon || s.Good != 0 || s.Probes != tries {
			t.Fatalf("it is %+v behind %d ill probes", s, tries)
		}
		wantNoProbe(t, "it has failed", p, s, impl.CdPhase)
		wantNoBoot(t, "it has failed", p, s, impl.CdSame, 3)
		s = wantBoot(t, "another boot", p, s, 4, bootIs(4), probeIs(0, 0))
		if s.Phase != impl.PhFailed || !s.Cordon || s.Good != 0 || s.Probes != 0 || s.Boot != 4 {
			t.Fatalf("it is %+v behind another boot", s)
		}
		wantNoProbe(t, "it has failed still", p, s, impl.CdPhase)
	}
}

// endOf tells of probes, one after the other, behind which one it is let in, and
// behind which one it fails; 0 where that is not so.
func endOf(p impl.Plan, probes []bool) (in, failed int) {
	for i := range probes {
		n := i + 1
		if n >= int(p.Probes) && !slices.Contains(probes[n-int(p.Probes):n], false) {
			return n, 0
		}
		if n == int(p.Tries) {
			return 0, n
		}
	}
	return 0, 0
}

// All ways in which eight probes can come out: it is let in just behind the
// last of so many good ones, and the cordon is lifted by that one and not sooner.
func TestPromise12AllWaysOfProbing(t *testing.T) {
	for needed := int64(1); needed <= 5; needed++ {
		for tries := needed; tries <= 8; tries++ {
			p := probesPlan(needed, tries)
			for set := range 256 {
				probes := []bool{}
				for i := range 8 {
					probes = append(probes, set>>i&1 == 1)
				}
				wantEnd(t, p, probes)
			}
		}
	}
}

func wantEnd(t *testing.T, p impl.Plan, probes []bool) {
	t.Helper()
	in, failed := endOf(p, probes)
	s, done := wantAsPlainBoot(t, "the boot", p, plainNew(p), 1), 0
	for s.Phase == impl.PhBooted || s.Phase == impl.PhChecking {
		if done == len(probes) || !s.Cordon {
			t.Fatalf("%v: it is %+v behind %d probes", probes, s, done)
		}
		s = wantAsPlainProbe(t, "one after the other", p, s, probes[done])
		done++
	}
	if in > 0 && (s.Phase != impl.PhIdle || s.Cordon || done != in) {
		t.Fatalf("%v: it is %+v behind %d probes, and is to be let in behind %d", probes, s, done, in)
	}
	if failed > 0 && (s.Phase != impl.PhFailed || !s.Cordon || done != failed) {
		t.Fatalf("%v: it is %+v behind %d probes, and is to fail behind %d", probes, s, done, failed)
	}
}

// Boots and probes one after the other, as they come: it is right at all times.
func TestPromise12OneAfterTheOther(t *testing.T) {
	phases := map[int64]int{}
	for seed := range int64(200) {
		p := madePlan(seed)
		p.Probes, p.Tries = 1+seed%3, 3+seed%5
		s := madeState(p, seed+5000)
		s.Good, s.Probes = 0, 0
		for step := range int64(60) {
			draw := (seed*31 + step*step*17 + step*7) % 13
			if s.Phase < impl.PhBooted || draw == 0 {
				s = wantAsPlainBoot(t, "a boot", p, s, draw)
			} else {
				s = wantAsPlainProbe(t, "a probe", p, s, draw%3 > 0)
			}
			phases[s.Phase]++
			if s.Phase == impl.PhFailed && draw == 5 {
				s = inPhase(plainNew(p), impl.PhReboot)
			}
		}
	}
	for _, phase := range []int64{impl.PhIdle, impl.PhBooted, impl.PhChecking, impl.PhFailed} {
		if phases[phase] < 500 {
			t.Errorf("phase %d is met %d times", phase, phases[phase])
		}
	}
}
