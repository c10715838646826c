package tests

import (
	"slices"
	"testing"

	"loop.example/g00767/impl"
)

func wantAllApplied(t *testing.T, name string, from impl.State, list []impl.Rec, want impl.State) {
	t.Helper()
	got, ok := impl.AppliedAll(smallPlan(), from, list)
	if !ok || !equalStates(got, want) {
		t.Errorf("%s: %+v, %v, not %+v", name, got, ok, want)
	}
	wantState(t, name, smallPlan(), got, true)
}

// wantNoneApplied checks that not even one of the list is done.
func wantNoneApplied(t *testing.T, name string, from impl.State, list []impl.Rec) {
	t.Helper()
	if got, ok := impl.AppliedAll(smallPlan(), from, list); ok || !equalStates(got, from) {
		t.Errorf("%s: %+v, %v, and ought to be as it was: %+v", name, got, ok, from)
	}
}

// changingRecs change all that there is in busyState; each is true wherever it
// stands in the list.
func changingRecs() []impl.Rec {
	return []impl.Rec{
		{Kind: impl.RcClock, A: 44}, {Kind: impl.RcPod, A: 2, B: impl.PdFailed}, {Kind: impl.RcBusy, A: 0, B: 5},
		{Kind: impl.RcFree, A: 2}, {Kind: impl.RcGive, A: 1}, {Kind: impl.RcLock, A: 0}, {Kind: impl.RcUnlock, A: 4},
		{Kind: impl.RcBand, A: 6}, {Kind: impl.RcBoot, A: 70}, {Kind: impl.RcLockBy, A: 71}, {Kind: impl.RcProbe, A: 5, B: 5},
		{Kind: impl.RcPhase, A: impl.PhFailed},
	}
}

// falseRecs are each false in busyState, and wherever changingRecs lead.
func falseRecs() []impl.Rec {
	return []impl.Rec{
		{}, {Kind: 13}, {Kind: impl.RcClock, A: -1}, {Kind: impl.RcClock, A: 1000001}, {Kind: impl.RcPhase, A: 9},
		{Kind: impl.RcPod, A: 3}, {Kind: impl.RcPod, A: 0, B: 7}, {Kind: impl.RcBusy, A: 5}, {Kind: impl.RcBusy, A: 1, B: 1},
		{Kind: impl.RcBusy, A: 0, B: 6}, {Kind: impl.RcFree, A: 5}, {Kind: impl.RcGive, A: 3}, {Kind: impl.RcLock, A: 8},
		{Kind: impl.RcBand, A: 7}, {Kind: impl.RcProbe, A: 2, B: 1}, {Kind: impl.RcProbe, B: 6},
	}
}

func TestPromise6AllOfNone(t *testing.T) {
	for _, from := range []impl.State{busyState(), plainNew(smallPlan())} {
		wantAllApplied(t, "nil", from, nil, from)
		wantAllApplied(t, "no records", from, []impl.Rec{}, from)
	}
}

func TestPromise6AllThatAreTrue(t *testing.T) {
	want := impl.State{
		Phase: impl.PhFailed, Cordon: true, Clock: 44, Boot: 70, Band: 6, LockBy: 71,
		Pods: []impl.PodAt{
			{State: impl.PdTerm, Since: 30},
			{State: impl.PdStopped, Since: 12},
			{State: impl.PdFailed, Since: 44},
		},
		Mounts:  []impl.MountAt{{Held: true, Busy: 5}, {}, {}, {Held: true}, {}},
		Devices: []bool{false, false, true},
		Locks:   []int64{0, 1, 6},
		Good:    5, Probes: 5,
	}
	wantAllApplied(t, "each kind", busyState(), changingRecs(), want)
	wantAllApplied(t, "each kind twice", busyState(), append(changingRecs(), changingRecs()...), want)
}

func TestPromise6AllInOrder(t *testing.T) {
	wantChain := func(name string, do func(s *impl.State), list ...impl.Rec) {
		t.Helper()
		want := busyState()
		do(&want)
		wantAllApplied(t, name, busyState(), list, want)
	}
	pod, later := impl.Rec{Kind: impl.RcPod, A: 0, B: 4}, impl.Rec{Kind: impl.RcClock, A: 90}
	wantChain("the clock behind it", func(s *impl.State) {
		s.Clock, s.Pods[0] = 90, impl.PodAt{State: 4, Since: 40}
	}, pod, later)
	wantChain("the clock ahead of it", func(s *impl.State) {
		s.Clock, s.Pods[0] = 90, impl.PodAt{State: 4, Since: 90}
	}, later, pod)
	wantChain("the clock goes back", func(s *impl.State) {
		s.Clock, s.Pods[0], s.Pods[1] = 3, impl.PodAt{State: 4, Since: 90}, impl.PodAt{State: 4, Since: 3}
	}, later, pod, impl.Rec{Kind: impl.RcClock, A: 3}, impl.Rec{Kind: impl.RcPod, A: 1, B: 4})
	wantChain("busy, then free", func(s *impl.State) { s.Mounts[0] = impl.MountAt{} },
		impl.Rec{Kind: impl.RcBusy, A: 0, B: 1}, impl.Rec{Kind: impl.RcFree, A: 0}, impl.Rec{Kind: impl.RcBusy, A: 0})
	wantNoneApplied(t, "free, then busy", busyState(), []impl.Rec{{Kind: impl.RcFree, A: 0}, {Kind: impl.RcBusy, A: 0, B: 1}})
	lock, unlock := impl.Rec{Kind: impl.RcLock, A: 2}, impl.Rec{Kind: impl.RcUnlock, A: 2}
	wantChain("locked, then not", func(*impl.State) {}, lock, unlock)
	wantChain("not locked, then so", func(s *impl.State) { s.Locks = []int64{1, 2, 4, 6} }, unlock, lock)
	idle, cordoned := impl.Rec{Kind: impl.RcPhase}, impl.Rec{Kind: impl.RcPhase, A: 1}
	wantChain("idle between", func(s *impl.State) {
		s.Phase, s.Good, s.Probes, s.Locks = 1, 0, 0, []int64{2}
	}, idle, lock, cordoned)
	wantChain("idle at last", func(s *impl.State) {
		s.Phase, s.Cordon, s.Good, s.Probes, s.Locks = 0, false, 0, 0, nil
	}, cordoned, lock, impl.Rec{Kind: impl.RcProbe, A: 1, B: 4}, idle)
}

// The list of AppliedAll is not one of a frame: how long it is is no matter.
func TestPromise6AllOfVeryMany(t *testing.T) {
	list := []impl.Rec{}
	for i := range int64(5000) {
		list = append(list, impl.Rec{Kind: impl.RcClock, A: i})
	}
	want := busyState()
	want.Clock = 4999
	wantAllApplied(t, "5000 records", busyState(), list, want)
	wantNoneApplied(t, "5000 records and a false one", busyState(), append(list, impl.Rec{Kind: impl.RcPhase, A: 9}))
}

// A false one is put at each place of a list that changes all there is.
func TestPromise6AllOrNone(t *testing.T) {
	for _, r := range falseRecs() {
		wantNoneApplied(t, "it alone", busyState(), []impl.Rec{r})
		for place := range len(changingRecs()) + 1 {
			wantNoneApplied(t, "it among others", busyState(), slices.Insert(changingRecs(), place, r))
		}
		twice := slices.Insert(slices.Insert(changingRecs(), 9, r), 3, r)
		wantNoneApplied(t, "two that are false", busyState(), twice)
		wantNoneApplied(t, "none that is true", busyState(), []impl.Rec{r, r, r})
	}
}

// Each one is to be right by itself: one behind it does not mend it.
func TestPromise6AllIsAskedStepByStep(t *testing.T) {
	for name, list := range map[string][]impl.Rec{
		"too few probes at first":  {{Kind: impl.RcProbe, A: 2, B: 1}, {Kind: impl.RcProbe, A: 2, B: 2}},
		"too many probes at first": {{Kind: impl.RcProbe, B: 6}, {Kind: impl.RcProbe, B: 5}},
		"a band that is none":      {{Kind: impl.RcBand, A: 7}, {Kind: impl.RcBand, A: 6}},
		"a phase that is none":     {{Kind: impl.RcPhase, A: 9}, {Kind: impl.RcPhase, A: 8}},
		"a lock that is none":      {{Kind: impl.RcLock, A: 8}, {Kind: impl.RcUnlock, A: 8}},
		"a lock, then idle":        {{Kind: impl.RcLock, A: 8}, {Kind: impl.RcPhase}},
		"busy and not held":        {{Kind: impl.RcBusy, A: 1, B: 1}, {Kind: impl.RcBusy, A: 1}},
		"too busy":                 {{Kind: impl.RcBusy, A: 0, B: 6}, {Kind: impl.RcFree, A: 0}},
		"a pod's state":            {{Kind: impl.RcPod, A: 0, B: 7}, {Kind: impl.RcPod, A: 0}},
	} {
		wantNoneApplied(t, name, busyState(), list)
	}
}

// plainApplied is one record as the document tells of it, by one field after
// the other, and nothing where it is false.
func plainApplied(p impl.Plan, s impl.State, r impl.Rec) (impl.State, bool) {
	made := ownState(s)
	number := map[int64]*int64{8: &made.Clock, 9: &made.Band, 10: &made.Boot, 11: &made.LockBy}[r.Kind]
	count := map[int64]int{2: len(p.Pods), 3: len(p.Mounts), 4: len(p.Mounts), 5: len(p.Devices)}
	most, numbered := count[r.Kind]
	switch {
	case !impl.RecOk(r), numbered && r.A >= int64(most):
		return impl.State{}, false
	case number != nil:
		*number = r.A
	case r.Kind == 1:
		made.Phase, made.Cordon = r.A, r.A > 0
	case r.Kind == 2:
		made.Pods[r.A].State, made.Pods[r.A].Since = r.B, s.Clock
	case r.Kind == 3:
		made.Mounts[r.A].Busy = r.B
	case r.Kind == 4:
		made.Mounts[r.A].Held, made.Mounts[r.A].Busy = false, 0
	case r.Kind == 5:
		made.Devices[r.A] = false
	case r.Kind == 6 && !slices.Contains(made.Locks, r.A):
		made.Locks = append(made.Locks, r.A)
		slices.Sort(made.Locks)
	case r.Kind == 7:
		made.Locks = slices.DeleteFunc(made.Locks, func(who int64) bool { return who == r.A })
	case r.Kind == 12:
		made.Good, made.Probes = r.A, r.B
	}
	if r.Kind == 1 && r.A == 0 {
		made.Good, made.Probes, made.Locks = 0, 0, nil
	}
	return made, impl.StateOk(p, made)
}

// madeRecs are count records that follow from seed alone, most of them such as
// a state can have.
func madeRecs(seed int64, count int) []impl.Rec {
	draw := func(below int64) int64 {
		seed = (seed*1103515245 + 12345) % (1 << 31)
		return seed / 65536 % below
	}
	list := []impl.Rec{}
	for range count {
		r := impl.Rec{Kind: 1 + draw(12), A: draw(9), B: draw(7)}
		if draw(40) == 0 {
			r.A, r.B = draw(20)-2, draw(20)-2
		}
		list = append(list, r)
	}
	return list
}

// Each state that records make is right, and is what they make one by one.
func TestPromise6MadeRecords(t *testing.T) {
	for seed := range int64(300) {
		p := madePlan(seed)
		from := madeState(p, seed+1000)
		now, done := from, []impl.Rec{}
		for _, r := range madeRecs(seed+2000, 150) {
			want, ok := plainApplied(p, now, r)
			if !ok {
				wantRefused(t, p, now, r)
				wrong, also := impl.AppliedAll(p, from, append(slices.Clone(done), r))
				if also || !equalStates(wrong, from) {
					t.Fatalf("%v behind %v: %+v, %v", r, done, wrong, also)
				}
				continue
			}
			wantApplied(t, p, now, r, func(s *impl.State) { *s = want })
			now, done = want, append(done, r)
		}
		all, ok := impl.AppliedAll(p, from, done)
		if !ok || !equalStates(all, now) || len(done) < 10 {
			t.Fatalf("%d records one by one make %+v, all at once %+v, %v", len(done), now, all, ok)
		}
	}
}
