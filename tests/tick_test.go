package tests

import (
	"math"
	"slices"
	"testing"

	"loop.example/g00767/impl"
)

// wantTick checks that a tick is one more of the clock with just these records
// behind that, and that they make a right state; it answers that.
func wantTick(t *testing.T, name string, p impl.Plan, s impl.State, behind ...impl.Rec) impl.State {
	t.Helper()
	want := append([]impl.Rec{{Kind: impl.RcClock, A: s.Clock + 1}}, behind...)
	got, code := impl.TickRecs(p, s)
	if code != impl.CdOk || !slices.Equal(got, want) {
		t.Errorf("%s: TickRecs is %v, %d, not %v, of %+v", name, got, code, want, s)
		return s
	}
	made, ok := impl.AppliedAll(p, s, got)
	if !ok || !impl.StateOk(p, made) || made.Clock != s.Clock+1 {
		t.Errorf("%s: the records %v make %+v, %v of %+v", name, got, made, ok, s)
	}
	return made
}

// wantNoTick checks that there is no tick, for this reason.
func wantNoTick(t *testing.T, name string, p impl.Plan, s impl.State, code int64) {
	t.Helper()
	if list, got := impl.TickRecs(p, s); got != code || len(list) != 0 {
		t.Errorf("%s: TickRecs is %v, %d, not nothing and %d, of %+v", name, list, got, code, s)
	}
}

// phaseIs, bandIs and podIs are what may come behind the clock of a tick that
// shuts; busyIs, free and give of one that releases.
func phaseIs(phase int64) impl.Rec       { return impl.Rec{Kind: 1, A: phase} }
func bandIs(band int64) impl.Rec         { return impl.Rec{Kind: 9, A: band} }
func podIs(pod, state int64) impl.Rec    { return impl.Rec{Kind: 2, A: pod, B: state} }
func busyIs(mount, often int64) impl.Rec { return impl.Rec{Kind: 3, A: mount, B: often} }
func free(mount int64) impl.Rec          { return impl.Rec{Kind: 4, A: mount} }
func give(device int64) impl.Rec         { return impl.Rec{Kind: 5, A: device} }

// shutting is a new state of p that shuts this band at clock 40, its pods in
// these states since 30; those of which none is told run since 0.
func shutting(p impl.Plan, band int64, states ...int64) impl.State {
	s := plainNew(p)
	s.Phase, s.Cordon, s.Clock, s.Band = impl.PhShutting, true, 40, band
	for i, n := range states {
		s.Pods[i] = impl.PodAt{State: n, Since: 30}
	}
	return s
}

// plainTick is the document's chapter, sentence by sentence.
func plainTick(p impl.Plan, s impl.State) ([]impl.Rec, int64) {
	if !impl.StateOk(p, s) {
		return nil, 1
	}
	if s.Clock == 1000000 {
		return nil, 7
	}
	list := []impl.Rec{{Kind: 8, A: s.Clock + 1}}
	if s.Phase == 3 {
		list = append(list, plainShutting(p, s, s.Clock+1)...)
	}
	if s.Phase == 4 {
		list = append(list, plainReleasing(p, s)...)
	}
	return list, 0
}

func plainShutting(p impl.Plan, s impl.State, c int64) []impl.Rec {
	if len(s.Locks) > 0 && c < s.LockBy {
		return nil
	}
	if s.Band == 6 {
		return []impl.Rec{phaseIs(4)}
	}
	steps, alive, next := []impl.Rec{}, false, int64(6)
	for i, d := range p.Pods {
		if d.Band > s.Band && d.Band < next {
			next = d.Band
		}
		if d.Band == s.Band {
			alive = alive || s.Pods[i].State <= 3
			if step := plainStep(d, s.Pods[i], c); step != s.Pods[i].State {
				steps = append(steps, podIs(int64(i), step))
			}
		}
	}
	if !alive {
		return []impl.Rec{bandIs(next)}
	}
	return steps
}

func plainReleasing(p impl.Plan, s impl.State) []impl.Rec {
	held := slices.Contains(s.Devices, true)
	for _, at := range s.Mounts {
		held = held || at.Held
	}
	if !held {
		return []impl.Rec{phaseIs(5)}
	}
	list := []impl.Rec{}
	for _, mount := range plainFree(p, s) {
		if often := s.Mounts[mount].Busy; often > 0 {
			list = append(list, busyIs(mount, often-1))
		} else {
			list = append(list, free(mount))
		}
	}
	for _, device := range plainGive(p, s) {
		list = append(list, give(device))
	}
	return list
}

// wantAsPlainTick answers the state that is left, and how many records there
// are behind the clock.
func wantAsPlainTick(t *testing.T, name string, p impl.Plan, s impl.State) (impl.State, int) {
	t.Helper()
	want, code := plainTick(p, s)
	if code != impl.CdOk {
		wantNoTick(t, name, p, s, code)
		return s, 0
	}
	return wantTick(t, name, p, s, want[1:]...), len(want) - 1
}

// wantAlone checks that nothing else than the clock is another one.
func wantAlone(t *testing.T, name string, p impl.Plan, s impl.State) {
	t.Helper()
	made, want := wantTick(t, name, p, s), ownState(s)
	want.Clock++
	if !equalStates(made, want) {
		t.Errorf("%s: it is %+v then, not %+v", name, made, want)
	}
}

// In each state there is something that would come of a tick that shuts, and of
// one that releases.
func TestPromise11EachPhase(t *testing.T) {
	for phase := range int64(9) {
		for _, clock := range []int64{0, 1, 40, 127, 128, 500000, 999998, 999999} {
			s := ended(smallPlan())
			s.Phase, s.Cordon, s.Clock = phase, phase != impl.PhIdle, clock
			s.Band, s.Pods[0] = 1, impl.PodAt{State: impl.PdKill, Since: 3}
			s.Mounts[1].Busy, s.Mounts[2].Busy = 1, 3
			switch phase {
			case impl.PhShutting:
				wantTick(t, "shutting", smallPlan(), s, podIs(0, impl.PdStopped))
			case impl.PhReleasing:
				wantTick(t, "releasing", smallPlan(), s, busyIs(2, 2))
			default:
				wantAlone(t, "any other phase", smallPlan(), s)
			}
		}
	}
}

// Where nothing is there, there is nothing to wait for either.
func TestPromise11NothingIsThere(t *testing.T) {
	none := impl.Plan{Probes: 1, Tries: 1}
	for phase := range int64(9) {
		s := impl.State{Phase: phase, Cordon: phase != 0}
		switch phase {
		case impl.PhShutting:
			wantTick(t, "no pod", none, s, bandIs(6))
			s.Band = 6
			wantTick(t, "no band", none, s, phaseIs(impl.PhReleasing))
		case impl.PhReleasing:
			wantTick(t, "no mount", none, s, phaseIs(impl.PhReboot))
		default:
			wantAlone(t, "nothing is there", none, s)
		}
	}
}

func TestPromise11TheLastTick(t *testing.T) {
	for phase := range int64(9) {
		s := ended(smallPlan(), 4)
		s.Phase, s.Cordon, s.Band = phase, phase != impl.PhIdle, 0
		s.Clock = 999999
		last, _ := wantAsPlainTick(t, "the last tick", smallPlan(), s)
		if last.Clock != 1000000 {
			t.Errorf("phase %d: the clock is %d behind the last tick", phase, last.Clock)
		}
		wantNoTick(t, "behind the last one", smallPlan(), last, impl.CdSpent)
		s.Clock = 1000000
		wantNoTick(t, "no tick is left", smallPlan(), s, impl.CdSpent)
		s.Band, s.Locks, s.LockBy = 6, []int64{3}, 1000000
		wantNoTick(t, "no tick is left, and a lock is held", smallPlan(), s, impl.CdSpent)
		nothing := ended(smallPlan(), 0, 1, 2, 3, 4)
		clear(nothing.Devices)
		nothing.Clock = 1000000
		wantNoTick(t, "no tick is left, and nothing is held", smallPlan(), nothing, impl.CdSpent)
	}
	wantNoTick(t, "at the limits", fullPlan(), edgeState(), impl.CdSpent)
}

// What is not right has no tick, whether there is one left or not.
func TestPromise11StatesThatAreNotRight(t *testing.T) {
	for phase := range int64(9) {
		for name, spoil := range stateSpoils() {
			for _, clock := range []int64{0, 40, 999999, 1000000} {
				s := shutting(smallPlan(), 1)
				s.Phase, s.Cordon, s.Clock = phase, phase != impl.PhIdle, clock
				spoil(&s)
				wantNoTick(t, name, smallPlan(), s, impl.CdBad)
			}
		}
	}
	for name, spoil := range stateSpoils() {
		s := edgeState()
		spoil(&s)
		wantNoTick(t, name, fullPlan(), s, impl.CdBad)
	}
	for _, clock := range []int64{math.MinInt64, -2, -1, 1000001, 1000002, 1 << 32, math.MaxInt64 - 1, math.MaxInt64} {
		s := shutting(smallPlan(), 1)
		s.Clock = clock
		wantNoTick(t, "a clock that is none", smallPlan(), s, impl.CdBad)
	}
	wantNoTick(t, "the zero state", smallPlan(), impl.State{}, impl.CdBad)
	wantNoTick(t, "the zero state, spent", smallPlan(), impl.State{Clock: 1000000}, impl.CdBad)
	wantNoTick(t, "of another plan", smallPlan(), edgeState(), impl.CdBad)
	wantNoTick(t, "of another plan", fullPlan(), shutting(smallPlan(), 1), impl.CdBad)
}

func TestPromise11PlansThatAreNotRight(t *testing.T) {
	for name, spoil := range wrongPlans() {
		for _, clock := range []int64{0, 40, 999999, 1000000} {
			for phase := range int64(9) {
				p, s := smallPlan(), shutting(smallPlan(), 1)
				spoil(&p)
				fits := plainNew(p)
				for _, s := range []impl.State{s, fits} {
					s.Phase, s.Cordon, s.Clock = phase, phase != impl.PhIdle, clock
					wantNoTick(t, name, p, s, impl.CdBad)
				}
			}
		}
	}
	wantNoTick(t, "the zero plan", impl.Plan{}, impl.State{}, impl.CdBad)
	wantNoTick(t, "the zero plan, spent", impl.Plan{}, impl.State{Clock: 1000000}, impl.CdBad)
}

// A lockedTick is a state that shuts at clock 40, and what comes of a tick where
// no lock is waited for.
type lockedTick struct {
	name   string
	plan   impl.Plan
	state  impl.State
	behind []impl.Rec
}

func lockedTicks() []lockedTick {
	p := inBands(1, 4)
	return []lockedTick{
		{"a pod goes on", p, shutting(p, 1), []impl.Rec{podIs(0, impl.PdTerm)}},
		{"a band is down", p, shutting(p, 1, impl.PdStopped), []impl.Rec{bandIs(4)}},
		{"the last band is down", p, shutting(p, 4, impl.PdStopped, impl.PdFailed), []impl.Rec{bandIs(6)}},
		{"no band is left", p, shutting(p, 6), []impl.Rec{phaseIs(impl.PhReleasing)}},
	}
}

func TestPromise11LocksUpToLockBy(t *testing.T) {
	all := [][]int64{{0}, {7}, {3}, {0, 7}, {0, 1, 2, 3, 4, 5, 6, 7}}
	for _, c := range lockedTicks() {
		for _, locks := range all {
			s := c.state
			s.Locks = locks
			for _, by := range []int64{42, 43, 500, 999999, 1000000} {
				s.LockBy = by
				wantAlone(t, c.name+", a lock is held", c.plan, s)
			}
			// It is 41 behind the tick: the lock is waited for no longer.
			for _, by := range []int64{41, 40, 39, 1, 0} {
				s.LockBy = by
				made := wantTick(t, c.name+", a lock was held long enough", c.plan, s, c.behind...)
				if !slices.Equal(made.Locks, locks) || made.LockBy != by {
					t.Errorf("%s: the locks are %v by %d then", c.name, made.Locks, made.LockBy)
				}
			}
		}
		for _, by := range []int64{0, 40, 41, 42, 1000000} {
			s := c.state
			s.LockBy = by
			wantTick(t, c.name+", no lock is held", c.plan, s, c.behind...)
			s.Locks = []int64{}
			wantTick(t, c.name+", no lock is held", c.plan, s, c.behind...)
		}
	}
}

func TestPromise11LocksAtTheEndOfTheClock(t *testing.T) {
	for _, c := range lockedTicks() {
		s := c.state
		s.Locks, s.LockBy = []int64{2}, 1000000
		s.Clock = 999998
		wantAlone(t, c.name+", one ahead of the last tick", c.plan, s)
		s.Clock = 999999
		wantTick(t, c.name+", at the last tick", c.plan, s, c.behind...)
	}
}

// A lock is waited for just until it is given up, or LockBy is there.
func TestPromise11LocksTickByTick(t *testing.T) {
	for _, by := range []int64{0, 1, 2, 3, 9} {
		p := inBands(2)
		s := shutting(p, 2)
		s.Locks, s.Clock, s.LockBy = []int64{5}, 20, 20+by
		for range by - 1 {
			wantAlone(t, "before LockBy", p, s)
			unlocked := ownState(s)
			unlocked.Locks = nil
			wantTick(t, "it is given up", p, unlocked, podIs(0, impl.PdTerm))
			s.Clock++
		}
		wantTick(t, "at LockBy", p, s, podIs(0, impl.PdTerm))
		s.Clock++
		wantTick(t, "behind LockBy", p, s, podIs(0, impl.PdTerm))
	}
}

// Only a machine that shuts waits for locks: one that releases has done so.
func TestPromise11LocksWhileItReleases(t *testing.T) {
	p := mountsPlan(-1)
	s := ended(p)
	s.Locks, s.LockBy = []int64{0, 1}, 1000000
	s = wantTick(t, "a mount is held", p, s, free(0))
	s = wantTick(t, "a device is held", p, s, give(0))
	s = wantTick(t, "nothing is held", p, s, phaseIs(impl.PhReboot))
	wantAlone(t, "it is down", p, s)
}

func TestPromise11NoBandIsLeft(t *testing.T) {
	for _, p := range []impl.Plan{{Probes: 1, Tries: 1}, inBands(0), inBands(5), inBands(5, 5, 3, 0), smallPlan(), fullPlan()} {
		wantTick(t, "all run", p, shutting(p, 6), phaseIs(impl.PhReleasing))
		for state := range int64(7) {
			s := shutting(p, 6, slices.Repeat([]int64{state}, len(p.Pods))...)
			made := wantTick(t, "all alike", p, s, phaseIs(impl.PhReleasing))
			if made.Phase != impl.PhReleasing || made.Band != 6 || !made.Cordon || !slices.Equal(made.Pods, s.Pods) {
				t.Errorf("it is %+v then", made)
			}
		}
	}
}

// A band without a pod is passed over, whoever else is alive.
func TestPromise11BandsWithoutPods(t *testing.T) {
	p := inBands(4, 1, 1)
	for state := range int64(7) {
		for band, next := range []int64{1, -1, 4, 4, -1, 6} {
			if next >= 0 {
				s := shutting(p, int64(band), state, state, state)
				if made := wantTick(t, "no pod is in it", p, s, bandIs(next)); made.Band != next {
					t.Errorf("Band is %d behind %d", made.Band, band)
				}
			}
		}
	}
}

func TestPromise11BandsThatAreDown(t *testing.T) {
	for down := int64(impl.PdStopped); down <= impl.PdEvicted; down++ {
		p := inBands(4, 1, 0, 1, 4)
		wantTick(t, "the first band", p, shutting(p, 0, 0, 0, down), bandIs(1))
		wantTick(t, "a band of several pods", p, shutting(p, 1, 0, down, 0, impl.PdStopped), bandIs(4))
		wantTick(t, "the last band", p, shutting(p, 4, down, 0, 0, 0, impl.PdFailed), bandIs(6))
		wantTick(t, "all bands, at the first", p, shutting(p, 0, down, down, down, down, down), bandIs(1))
		wantTick(t, "all bands, at the last", p, shutting(p, 4, down, down, down, down, down), bandIs(6))
		for band := range int64(6) {
			wantTick(t, "one band alone", inBands(band, band), shutting(inBands(band, band), band, down, down), bandIs(6))
			for next := band + 1; next < 6; next++ {
				q := inBands(next, band)
				wantTick(t, "bands between that have no pods", q, shutting(q, band, 0, down), bandIs(next))
				q = inBands(5, next, band)
				wantTick(t, "the next one of two", q, shutting(q, band, 0, 0, down), bandIs(next))
				wantTick(t, "the next one is down too", q, shutting(q, band, down, down, down), bandIs(next))
			}
		}
	}
}

// A band is not left as long as one of its pods is alive, whichever that is.
func TestPromise11OneIsAliveStill(t *testing.T) {
	p := inBands(slices.Repeat([]int64{3}, 12)...)
	p.Pods[4].Band, p.Pods[9].Band = 1, 5
	for pod := range int64(12) {
		for state := range int64(4) {
			for down := int64(impl.PdStopped); down <= impl.PdEvicted; down++ {
				states := slices.Repeat([]int64{down}, 12)
				states[pod] = state
				s := shutting(p, 3, states...)
				if pod == 4 || pod == 9 {
					wantTick(t, "one of another band is alive", p, s, bandIs(5))
					continue
				}
				next := []int64{impl.PdTerm, impl.PdTerm, impl.PdKill, impl.PdStopped}[state]
				wantTick(t, "one of the band is alive", p, s, podIs(pod, next))
				s.Pods[pod].Since = 1000000
				if state == impl.PdHook || state == impl.PdTerm {
					wantAlone(t, "one of the band is alive, and waits", p, s)
				}
			}
		}
	}
}

// wantStepAt checks of one pod, in this state since 30, whose time is up at
// this clock, that it goes on in the tick that makes this clock, and not ahead.
func wantStepAt(t *testing.T, name string, d impl.Pod, state, clock, next int64) {
	t.Helper()
	p := podsPlan(d)
	s := shutting(p, d.Band, state)
	for _, early := range []int64{30, clock - 3, clock - 2} {
		if s.Clock = early; early >= 30 && early < clock-1 {
			wantAlone(t, name+", too early", p, s)
		}
	}
	for _, late := range []int64{clock - 1, clock, clock + 1, 900000} {
		s.Clock = late
		made := wantTick(t, name, p, s, podIs(0, next))
		if (made.Pods[0] != impl.PodAt{State: next, Since: late + 1}) {
			t.Errorf("%s: it is %+v behind the tick at %d", name, made.Pods[0], late)
		}
	}
}

func TestPromise11PodsInEachState(t *testing.T) {
	for _, hook := range []int64{0, 1, 2, 3, 9, 500} {
		for _, grace := range []int64{0, 1, 2, 3, 7, 500} {
			d := impl.Pod{Band: hook % 6, Hook: hook, Grace: grace}
			first := int64(impl.PdHook)
			if hook == 0 {
				first = impl.PdTerm
			}
			wantStepAt(t, "it runs", d, impl.PdRunning, 31, first)
			// The tick behind clock 30 makes 31: a time of 0 or 1 is up then.
			wantStepAt(t, "it is asked", d, impl.PdHook, 30+max(hook, 1), impl.PdTerm)
			wantStepAt(t, "it is told", d, impl.PdTerm, 30+max(grace, 1), impl.PdKill)
			wantStepAt(t, "it is stopped", d, impl.PdKill, 31, impl.PdStopped)
			for down := int64(impl.PdStopped); down <= impl.PdEvicted; down++ {
				p := podsPlan(d, impl.Pod{Band: d.Band, Grace: 3})
				s := shutting(p, d.Band, down, impl.PdTerm)
				wantTick(t, "it is down, another one is told", p, s, podIs(1, impl.PdKill))
				s.Clock = 30
				wantAlone(t, "it is down, another one waits", p, s)
			}
		}
	}
}

// The clock less Since is below 0 then, so no time is up, but for what needs
// none.
func TestPromise11SinceIsMoreThanTheClock(t *testing.T) {
	p := podsPlan(impl.Pod{}, impl.Pod{Hook: 5, Grace: 5})
	for _, since := range []int64{42, 43, 1000, 1000000} {
		s := shutting(p, 0)
		set := func(state int64) {
			s.Pods[0] = impl.PodAt{State: state, Since: since}
			s.Pods[1] = impl.PodAt{State: state, Since: since}
		}
		set(impl.PdRunning)
		wantTick(t, "they run", p, s, podIs(0, impl.PdTerm), podIs(1, impl.PdHook))
		set(impl.PdHook)
		wantAlone(t, "they are asked", p, s)
		set(impl.PdTerm)
		wantAlone(t, "they are told", p, s)
		set(impl.PdKill)
		wantTick(t, "they are stopped", p, s, podIs(0, impl.PdStopped), podIs(1, impl.PdStopped))
	}
	// Behind the tick it is 41: of what is so since 41 a time of 0 is up.
	s := shutting(p, 0)
	s.Pods[0], s.Pods[1] = impl.PodAt{State: impl.PdHook, Since: 41}, impl.PodAt{State: impl.PdHook, Since: 41}
	wantTick(t, "asked at the tick", p, s, podIs(0, impl.PdTerm))
	s.Pods[0].State, s.Pods[1].State = impl.PdTerm, impl.PdTerm
	wantTick(t, "told at the tick", p, s, podIs(0, impl.PdKill))
}

// Those that stay are left out, and the others are told of in order.
func TestPromise11PodsOfABandInOrder(t *testing.T) {
	p := inBands(2, 2, 2, 2, 2, 2, 2, 2, 2, 2, 2, 2)
	for i, times := range [][2]int64{{0, 3}, {11, 0}, {10, 0}, {0, 0}, {500, 11}, {0, 10}, {0, 11}, {11, 0}} {
		p.Pods[i].Hook, p.Pods[i].Grace = times[0], times[1]
	}
	s := shutting(p, 2, 0, 0, 1, 4, 1, 2, 2, 1, 3, 5, 6, 3)
	wantTick(t, "at the tick", p, s, podIs(0, 2), podIs(1, 1), podIs(2, 2), podIs(5, 3), podIs(6, 3),
		podIs(7, 2), podIs(8, 4), podIs(11, 4))
	s.Clock = 39
	wantTick(t, "one tick sooner", p, s, podIs(0, 2), podIs(1, 1), podIs(2, 2), podIs(5, 3), podIs(8, 4), podIs(11, 4))
	s.Clock = 38
	wantTick(t, "two ticks sooner", p, s, podIs(0, 2), podIs(1, 1), podIs(8, 4), podIs(11, 4))
	slices.Reverse(p.Pods)
	slices.Reverse(s.Pods)
	wantTick(t, "two ticks sooner, the last one first", p, s, podIs(0, 4), podIs(3, 4), podIs(10, 1), podIs(11, 2))
}

// Pods of other bands stay, whatever they are, and whatever those of the band.
func TestPromise11OtherBandsStay(t *testing.T) {
	p := inBands(0, 3, 5, 2, 3, 4, 3)
	for state := range int64(7) {
		for _, other := range []int64{impl.PdRunning, impl.PdHook, impl.PdTerm, impl.PdKill, impl.PdStopped} {
			s := shutting(p, 3, other, state, other, other, state, other, impl.PdStopped)
			made, _ := wantAsPlainTick(t, "pods of other bands", p, s)
			for _, pod := range []int{0, 2, 3, 5, 6} {
				if made.Pods[pod] != s.Pods[pod] {
					t.Errorf("pod %d was %+v and is %+v", pod, s.Pods[pod], made.Pods[pod])
				}
			}
		}
	}
	wantTick(t, "all run", p, shutting(p, 3), podIs(1, 2), podIs(4, 2), podIs(6, 2))
	wantTick(t, "all run, another band", p, shutting(p, 5), podIs(2, 2))
}

// What is held, and how busy it is, is nothing to one that shuts.
func TestPromise11ShuttingGivesNothingBack(t *testing.T) {
	p := smallPlan()
	for _, free := range [][]int64{nil, {4}, {0, 1, 2, 3, 4}} {
		s := ended(p, free...)
		s.Phase, s.Band, s.Clock = impl.PhShutting, 1, 40
		wantTick(t, "all have ended", p, s, bandIs(4))
		s.Band = 6
		wantTick(t, "no band is left", p, s, phaseIs(impl.PhReleasing))
		s.Band, s.Pods[2] = 4, impl.PodAt{State: impl.PdKill}
		wantTick(t, "one is stopped", p, s, podIs(2, impl.PdStopped))
	}
}

// A time is up for what was so ahead of the tick alone: a pod goes one step.
func TestPromise11OneStepATick(t *testing.T) {
	p := podsPlan(impl.Pod{}, impl.Pod{Hook: 1, Grace: 1})
	s := shutting(p, 0)
	s = wantTick(t, "1", p, s, podIs(0, 2), podIs(1, 1))
	s = wantTick(t, "2", p, s, podIs(0, 3), podIs(1, 2))
	s = wantTick(t, "3", p, s, podIs(0, 4), podIs(1, 3))
	s = wantTick(t, "4", p, s, podIs(1, 4))
	s = wantTick(t, "5", p, s, bandIs(6))
	s = wantTick(t, "6", p, s, phaseIs(4))
	s = wantTick(t, "7", p, s, phaseIs(5))
	wantAlone(t, "8", p, s)
}

func TestPromise11NothingIsHeld(t *testing.T) {
	for _, p := range []impl.Plan{inBands(), inBands(2), mountsPlan(-1), mountsPlan(-1, 0, -1), smallPlan(), fullPlan()} {
		for state := range int64(7) {
			s := plainNew(p)
			s.Phase, s.Cordon, s.Band = impl.PhReleasing, true, 3
			clear(s.Mounts)
			clear(s.Devices)
			for pod := range s.Pods {
				s.Pods[pod].State = state
			}
			made := wantTick(t, "nothing is held", p, s, phaseIs(impl.PhReboot))
			if made.Phase != impl.PhReboot || !made.Cordon || made.Band != 3 {
				t.Errorf("it is %+v then", made)
			}
		}
	}
}

// One alone that is held keeps it from being down, whichever it is.
func TestPromise11OneIsHeldStill(t *testing.T) {
	p := mountsPlan(-1, -1, -1, -1, -1, -1, -1, -1, -1, -1, -1, -1)
	for n := range int64(12) {
		s := ended(p)
		clear(s.Mounts)
		clear(s.Devices)
		s.Mounts[n].Held = true
		made := wantTick(t, "one mount", p, s, free(n))
		wantTick(t, "no mount any more", p, made, phaseIs(impl.PhReboot))
		s.Pods[0].State = impl.PdKill
		wantAlone(t, "one mount, and its pod is alive", p, s)
		s.Mounts[n].Held, s.Devices[n] = false, true
		made = wantTick(t, "one device", p, s, give(n))
		wantTick(t, "no device any more", p, made, phaseIs(impl.PhReboot))
	}
}

func TestPromise11MountsAloneAndDevicesAlone(t *testing.T) {
	p := mountsPlan(-1, 0, -1)
	s := ended(p)
	clear(s.Devices)
	s = wantTick(t, "mounts alone", p, s, free(1), free(2))
	s = wantTick(t, "the last mount", p, s, free(0))
	wantTick(t, "no mount", p, s, phaseIs(impl.PhReboot))
	wantTick(t, "devices alone", p, ended(p, 0, 1, 2), give(0), give(1), give(2))
	p.Devices = nil
	wantTick(t, "no devices are there", p, ended(p), free(1), free(2))
	wantTick(t, "no devices are there", p, ended(p, 0, 1, 2), phaseIs(impl.PhReboot))
}

func TestPromise11HowBusy(t *testing.T) {
	for mount := range int64(3) {
		for busy := range int64(6) {
			p := mountsPlan(-1, -1, -1)
			s := ended(p, (mount+1)%3, (mount+2)%3)
			clear(s.Devices)
			s.Mounts[mount].Busy = busy
			for left := busy - 1; left >= 0; left-- {
				s = wantTick(t, "it is busy", p, s, busyIs(mount, left))
				if (s.Mounts[mount] != impl.MountAt{Held: true, Busy: left}) {
					t.Fatalf("mount %d is %+v", mount, s.Mounts[mount])
				}
			}
			s = wantTick(t, "it is not busy", p, s, free(mount))
			wantTick(t, "it is free", p, s, phaseIs(impl.PhReboot))
		}
	}
}

func TestPromise11MountsThatWait(t *testing.T) {
	for _, busy := range []int64{0, 1, 5} {
		for state := range int64(7) {
			p := mountsPlan(-1, -1, 1)
			p.Mounts[0].Pod = 1
			s := ended(p)
			s.Pods[1].State = state
			for mount := range s.Mounts {
				s.Mounts[mount].Busy = busy
			}
			gone := func(mount int64) impl.Rec {
				if busy > 0 {
					return busyIs(mount, busy-1)
				}
				return free(mount)
			}
			if impl.Alive(state) {
				wantTick(t, "its pod is alive", p, s, gone(2))
			} else {
				wantTick(t, "its pod is not alive", p, s, gone(0), gone(2))
			}
			s.Mounts[2], s.Devices[2] = impl.MountAt{}, false
			if impl.Alive(state) {
				wantTick(t, "its pod is alive, no child is held", p, s, gone(1))
			} else {
				wantTick(t, "no child is held", p, s, gone(0), gone(1))
			}
			s.Pods[0].State, s.Pods[1].State = impl.PdTerm, impl.PdRunning
			wantAlone(t, "all pods are alive", p, s)
		}
	}
}

// All is asked of the state ahead of the tick: neither the mount around one
// that is freed in this tick, nor a device on it, is given back with it.
func TestPromise11AheadOfTheTick(t *testing.T) {
	p := mountsPlan(-1, 0)
	s := wantTick(t, "the inner mount", p, ended(p), free(1))
	s = wantTick(t, "the outer mount, and the device on the inner one", p, s, free(0), give(1))
	s = wantTick(t, "the device on the outer mount", p, s, give(0))
	s = wantTick(t, "nothing", p, s, phaseIs(impl.PhReboot))
	wantAlone(t, "it is down", p, s)
	p = mountsPlan(-1, 0)
	p.Devices = []impl.Device{{Mount: 1}}
	s = ended(p)
	s.Mounts[0].Busy, s.Mounts[1].Busy = 1, 1
	s = wantTick(t, "the inner mount is busy", p, s, busyIs(1, 0))
	s = wantTick(t, "it is not", p, s, free(1))
	s = wantTick(t, "the outer mount is busy", p, s, busyIs(0, 0), give(0))
	s = wantTick(t, "the outer mount is not", p, s, free(0))
	wantTick(t, "the last one was freed in the tick ahead", p, s, phaseIs(impl.PhReboot))
}

// As deep as mounts can lie, one is freed in a tick, and then its device.
func TestPromise11OneInTheOther(t *testing.T) {
	p := fullPlan()
	for i := range p.Devices {
		p.Devices[i].Mount = int64(11 - i)
	}
	s := wantTick(t, "the innermost", p, ended(p), free(11))
	for mount := int64(10); mount >= 0; mount-- {
		s = wantTick(t, "the next one, and the device of the one in it", p, s, free(mount), give(10-mount))
	}
	s = wantTick(t, "the last device", p, s, give(11))
	wantTick(t, "all is given back", p, s, phaseIs(impl.PhReboot))
}

func TestPromise11SeveralAtOnce(t *testing.T) {
	p := mountsPlan(-1, -1, 0, 1, -1, -1, 5, -1)
	p.Devices = []impl.Device{{Mount: 6}, {Mount: 0}, {Mount: 3}, {Mount: 3}, {Mount: 4}, {Mount: 6}}
	p.Mounts[4].Pod = 1
	s := ended(p, 3, 6)
	s.Mounts[1].Busy, s.Mounts[2].Busy, s.Mounts[7].Busy = 4, 1, 2
	s.Pods[1].State, s.Devices[3] = impl.PdHook, false
	s = wantTick(t, "mounts, and devices behind them", p, s, busyIs(1, 3), busyIs(2, 0), free(5), busyIs(7, 1),
		give(0), give(2), give(5))
	s = wantTick(t, "mounts alone", p, s, busyIs(1, 2), free(2), busyIs(7, 0))
	s.Pods[1].State = impl.PdFailed
	s = wantTick(t, "a pod has failed", p, s, free(0), busyIs(1, 1), free(4), free(7))
	s = wantTick(t, "devices of what was freed", p, s, busyIs(1, 0), give(1), give(4))
	s = wantTick(t, "the last mount", p, s, free(1))
	wantTick(t, "nothing is held", p, s, phaseIs(impl.PhReboot))
	full := mountsPlan(-1, -1, -1, -1, -1, -1, -1, -1, -1, -1, -1, -1)
	recs := []impl.Rec{}
	for n := range int64(12) {
		recs = append(recs, free(n))
	}
	made := wantTick(t, "as many mounts as can be", full, ended(full), recs...)
	for n := range recs {
		recs[n] = give(int64(n))
	}
	wantTick(t, "as many devices as can be", full, made, recs...)
}

// Two pods in all states, in one band or in two, some of them just so long that
// their time is up.
func TestPromise11AllOfTwo(t *testing.T) {
	for n := range int64(7 * 7 * 8 * 16) {
		p := podsPlan(impl.Pod{Band: n / 49 % 2, Hook: n / 392 % 2 * 5, Grace: n / 784 % 2 * 5}, impl.Pod{Band: n / 98 % 4, Grace: 3})
		s := shutting(p, 0, n%7, n/7%7)
		s.LockBy = 37
		if n/1568%2 == 1 {
			s.Locks = []int64{n % 8}
		}
		for band := range int64(7) {
			s.Band = band
			for _, s.Clock = range []int64{29, 30, 33, 34, 35, 36, 37, 999999, 1000000} {
				wantAsPlainTick(t, "two pods", p, s)
			}
		}
	}
}

// Three mounts in all ways in which they can lie, each free, held, or busy, and
// each device held or not.
func TestPromise11AllOfThree(t *testing.T) {
	mounts := []impl.MountAt{{}, {Held: true}, {Held: true, Busy: 1}}
	for n := range int64(2 * 3 * 27 * 8) {
		p := mountsPlan(-1, n%2-1, n/2%3-1)
		p.Mounts[1].Pod = 1
		for states := range int64(4) {
			s := ended(p)
			s.Pods[0].State, s.Pods[1].State = 3+states%2, 3+states/2
			s.Mounts[0], s.Mounts[1], s.Mounts[2] = mounts[n/6%3], mounts[n/18%3], mounts[n/54%3]
			for device := range 3 {
				s.Devices[device] = n/162>>device&1 == 1
			}
			wantAsPlainTick(t, "three mounts", p, s)
		}
	}
}

func TestPromise11MadeStates(t *testing.T) {
	behind := map[int64]int{}
	for seed := range int64(500) {
		p := madePlan(seed)
		s := madeState(p, seed+3000)
		for phase := range int64(9) {
			s.Phase, s.Cordon = phase, phase != impl.PhIdle
			for _, s.Clock = range []int64{seed % 1000, s.LockBy - 2, s.LockBy - 1, s.LockBy, 1000000} {
				s.Clock = max(s.Clock, 0)
				for pod := range s.Pods {
					s.Pods[pod].Since = max(0, s.Clock-seed*int64(pod)%700)
				}
				for s.Band = range int64(7) {
					_, more := wantAsPlainTick(t, "a made one", p, s)
					behind[phase] += more
				}
			}
		}
	}
	for phase, more := range behind {
		going := phase == impl.PhShutting || phase == impl.PhReleasing
		if going && more < 5000 || !going && more > 0 {
			t.Errorf("there are %d records behind the clock in phase %d", more, phase)
		}
	}
}

// Tick by tick, from the shut on, until it is down: each tick is one more of the
// clock, and all is down within the time that the document tells.
func TestPromise11TickByTick(t *testing.T) {
	for seed := range int64(120) {
		p := madePlan(seed)
		p.LockMax %= 40
		for i := range p.Pods {
			p.Pods[i].Hook, p.Pods[i].Grace = p.Pods[i].Hook*seed%9, p.Pods[i].Grace%7
		}
		s := plainNew(p)
		s.Phase, s.Cordon, s.Clock = impl.PhDraining, true, seed*7000
		if seed%3 > 0 {
			s.Locks = []int64{seed % 8}
		}
		for i := range s.Mounts {
			s.Mounts[i].Busy = (seed + int64(i)) % 6
		}
		s = wantDone(t, "the shut", p, s, said{impl.OdShut, 0, 0}, plainCommandRecs(p, s, said{impl.OdShut, 0, 0})...)
		ticks, whole := int64(0), impl.WholeTime(p)
		for s.Phase != impl.PhReboot && ticks <= whole {
			s, _ = wantAsPlainTick(t, "tick by tick", p, s)
			ticks++
		}
		if ticks > whole || len(impl.LiveIn(s)) != 0 || heldMounts(s) != 0 || slices.Contains(s.Devices, true) {
			t.Errorf("of %+v it is %+v behind %d ticks of %d", p, s, ticks, whole)
		}
		wantAlone(t, "it is down", p, s)
	}
}
