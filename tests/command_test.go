package tests

import (
	"math"
	"slices"
	"testing"

	"loop.example/g00767/impl"
)

// A said is a command, as it is given to Commanded.
type said struct{ kind, a, b int64 }

func commanded(p impl.Plan, s impl.State, c said) ([]impl.Rec, int64) {
	return impl.Commanded(p, s, c.kind, c.a, c.b)
}

// wantDone checks that a command is accepted with just these records, and that
// they make a right state; it answers that.
func wantDone(t *testing.T, name string, p impl.Plan, s impl.State, c said, want ...impl.Rec) impl.State {
	t.Helper()
	got, code := commanded(p, s, c)
	if code != impl.CdOk || !slices.Equal(got, want) {
		t.Errorf("%s: %+v answers %v, %d, not %v", name, c, got, code, want)
		return s
	}
	made, ok := impl.AppliedAll(p, s, got)
	if !ok || !impl.StateOk(p, made) {
		t.Errorf("%s: %+v: the records %v are not true of %+v", name, c, got, s)
	}
	return made
}

// wantNot checks that a command is refused with this code, and nothing beside
// it.
func wantNot(t *testing.T, name string, p impl.Plan, s impl.State, code int64, these ...said) {
	t.Helper()
	for _, c := range these {
		if list, got := commanded(p, s, c); got != code || len(list) != 0 {
			t.Errorf("%s: %+v answers %v, %d, not nothing and %d", name, c, list, got, code)
		}
	}
}

// readyState is a new state of smallPlan but for a lock of 1 and pod 1, whose
// hook runs: of each kind there is a command against which only the phase can
// speak.
func readyState(phase int64) impl.State {
	s := plainNew(smallPlan())
	s.Phase, s.Cordon, s.Clock, s.Locks = phase, phase != impl.PhIdle, 20, []int64{1}
	s.Pods[1] = impl.PodAt{State: impl.PdHook, Since: 17}
	return s
}

// A readyCommand may be done in these phases of readyState, and makes these
// records then.
type readyCommand struct {
	said   said
	phases []int64
	recs   []impl.Rec
}

func readyCommands() []readyCommand {
	all := []int64{0, 1, 2, 3, 4, 5, 6, 7, 8}
	return []readyCommand{
		{said{impl.OdCordon, 0, 0}, []int64{0}, []impl.Rec{{Kind: impl.RcPhase, A: impl.PhCordoned}}},
		{said{impl.OdDrain, 0, 0}, []int64{1}, []impl.Rec{{Kind: impl.RcPhase, A: impl.PhDraining}}},
		{said{impl.OdEvict, 2, 0}, []int64{2}, []impl.Rec{{Kind: impl.RcPod, A: 2, B: impl.PdEvicted}}},
		{said{impl.OdShut, 0, 0}, []int64{1, 2}, []impl.Rec{
			{Kind: impl.RcLockBy, A: 29}, {Kind: impl.RcBand, A: 0}, {Kind: impl.RcPhase, A: impl.PhShutting},
		}},
		{said{impl.OdCancel, 0, 0}, []int64{1, 2}, []impl.Rec{{Kind: impl.RcPhase, A: impl.PhIdle}}},
		{said{impl.OdLock, 3, 0}, []int64{0, 1, 2}, []impl.Rec{{Kind: impl.RcLock, A: 3}}},
		{said{impl.OdUnlock, 1, 0}, all, []impl.Rec{{Kind: impl.RcUnlock, A: 1}}},
		{said{impl.OdHook, 1, 0}, all, []impl.Rec{{Kind: impl.RcPod, A: 1, B: impl.PdTerm}}},
		{said{impl.OdExit, 2, 0}, all, []impl.Rec{{Kind: impl.RcPod, A: 2, B: impl.PdFailed}}},
		{said{impl.OdBusy, 3, 4}, []int64{0, 1, 2, 3}, []impl.Rec{{Kind: impl.RcBusy, A: 3, B: 4}}},
	}
}

// kindsOfPod, kindsOfLock and kindsOfMount are the kinds that name an A.
func kindsOfPod() []int64   { return []int64{impl.OdEvict, impl.OdHook, impl.OdExit} }
func kindsOfLock() []int64  { return []int64{impl.OdLock, impl.OdUnlock} }
func kindsOfMount() []int64 { return []int64{impl.OdBusy} }

// plainCommanded is the table of the document, row by row: of each kind what it
// is refused for, in order, and what its records are.
func plainCommanded(p impl.Plan, s impl.State, c said) ([]impl.Rec, int64) {
	type no struct {
		code int64
		is   func() bool
	}
	pod := no{2, func() bool { return c.a < 0 || c.a >= int64(len(p.Pods)) }}
	who := no{2, func() bool { return c.a < 0 || c.a >= 8 }}
	mount := no{2, func() bool { return c.a < 0 || c.a >= int64(len(p.Mounts)) }}
	often := no{1, func() bool { return c.b < 1 || c.b > 5 }}
	phase := func(these ...int64) no {
		return no{3, func() bool { return !slices.Contains(these, s.Phase) }}
	}
	holds := func(refused bool) no {
		return no{4, func() bool { return slices.Contains(s.Locks, c.a) == refused }}
	}
	stateOf := func(these ...int64) no {
		return no{4, func() bool { return !slices.Contains(these, s.Pods[c.a].State) }}
	}
	budget := no{5, func() bool { return !slices.Contains(plainMay(p, s), c.a) }}
	taken := no{4, func() bool { return s.Mounts[c.a] != impl.MountAt{Held: true} }}
	rows := map[int64][]no{
		1: {phase(0)}, 2: {phase(1)}, 3: {pod, phase(2), stateOf(0), budget}, 4: {phase(1, 2)}, 5: {phase(1, 2)},
		6: {who, phase(0, 1, 2), holds(true)}, 7: {who, holds(false)},
		8: {pod, stateOf(1)}, 9: {pod, stateOf(0, 1, 2, 3)}, 10: {mount, often, phase(0, 1, 2, 3), taken},
	}
	row, known := rows[c.kind]
	if !known || !impl.StateOk(p, s) {
		return nil, 1
	}
	for _, no := range row {
		if no.is() {
			return nil, no.code
		}
	}
	return plainCommandRecs(p, s, c), 0
}

func plainCommandRecs(p impl.Plan, s impl.State, c said) []impl.Rec {
	switch c.kind {
	case 3:
		return []impl.Rec{{Kind: 2, A: c.a, B: 6}}
	case 4:
		by, band := s.Clock+p.LockMax, int64(6)
		if by > 1000000 {
			by = 1000000
		}
		for _, d := range p.Pods {
			band = min(band, d.Band)
		}
		return []impl.Rec{{Kind: 11, A: by}, {Kind: 9, A: band}, {Kind: 1, A: 3}}
	case 6, 7:
		return []impl.Rec{{Kind: c.kind, A: c.a}}
	case 8:
		return []impl.Rec{{Kind: 2, A: c.a, B: 2}}
	case 9:
		return []impl.Rec{{Kind: 2, A: c.a, B: map[int64]int64{0: 5, 1: 5, 2: 4, 3: 4}[s.Pods[c.a].State]}}
	case 10:
		return []impl.Rec{{Kind: 3, A: c.a, B: c.b}}
	}
	return []impl.Rec{{Kind: 1, A: map[int64]int64{1: 1, 2: 2, 5: 0}[c.kind]}}
}

// wantAsPlainCommand answers the state that is left, and the code.
func wantAsPlainCommand(t *testing.T, name string, p impl.Plan, s impl.State, c said) (impl.State, int64) {
	t.Helper()
	want, code := plainCommanded(p, s, c)
	if code != impl.CdOk {
		wantNot(t, name, p, s, code, c)
		return s, code
	}
	return wantDone(t, name, p, s, c, want...), code
}

func TestPromise10CodesAndKinds(t *testing.T) {
	codes := []int64{
		impl.CdOk, impl.CdBad, impl.CdNone, impl.CdPhase, impl.CdState,
		impl.CdBudget, impl.CdSame, impl.CdSpent, impl.CdFull,
	}
	if !alike(codes, 0, 1, 2, 3, 4, 5, 6, 7, 8) {
		t.Error("the codes are", codes)
	}
	kinds := []int64{
		impl.OdCordon, impl.OdDrain, impl.OdEvict, impl.OdShut, impl.OdCancel, impl.OdLock, impl.OdUnlock,
		impl.OdHook, impl.OdExit, impl.OdBusy, impl.OdTick, impl.OdBoot, impl.OdProbe,
	}
	if !alike(kinds, 1, 2, 3, 4, 5, 6, 7, 8, 9, 10, 11, 12, 13) {
		t.Error("the kinds are", kinds)
	}
}

// Each kind is done once, one behind the other, and each changes just what it
// tells.
func TestPromise10EachKindDone(t *testing.T) {
	p, s := smallPlan(), plainNew(smallPlan())
	s.Clock = 40
	want := ownState(s)
	then := func(name string, c said, recs ...impl.Rec) {
		t.Helper()
		s = wantDone(t, name, p, s, c, recs...)
		if !equalStates(s, want) {
			t.Errorf("%s: it is %+v then, not %+v", name, s, want)
		}
	}
	want.Locks = []int64{5}
	then("lock", said{impl.OdLock, 5, 0}, impl.Rec{Kind: 6, A: 5})
	want.Phase, want.Cordon = 1, true
	then("cordon", said{impl.OdCordon, 0, 0}, impl.Rec{Kind: 1, A: 1})
	want.Phase, want.Cordon, want.Locks = 0, false, nil
	then("cancel", said{impl.OdCancel, 0, 0}, impl.Rec{Kind: 1, A: 0})
	want.Locks = []int64{0}
	then("lock again", said{impl.OdLock, 0, 0}, impl.Rec{Kind: 6, A: 0})
	want.Phase, want.Cordon = 1, true
	then("cordon again", said{impl.OdCordon, 0, 0}, impl.Rec{Kind: 1, A: 1})
	want.Phase = 2
	then("drain", said{impl.OdDrain, 0, 0}, impl.Rec{Kind: 1, A: 2})
	want.Pods[0] = impl.PodAt{State: 6, Since: 40}
	then("evict", said{impl.OdEvict, 0, 0}, impl.Rec{Kind: 2, A: 0, B: 6})
	want.Mounts[4].Busy = 5
	then("busy", said{impl.OdBusy, 4, 5}, impl.Rec{Kind: 3, A: 4, B: 5})
	want.LockBy, want.Band, want.Phase = 49, 0, 3
	then("shut", said{impl.OdShut, 0, 0}, impl.Rec{Kind: 11, A: 49}, impl.Rec{Kind: 9, A: 0}, impl.Rec{Kind: 1, A: 3})
	want.Locks = nil
	then("unlock", said{impl.OdUnlock, 0, 0}, impl.Rec{Kind: 7, A: 0})
	s.Pods[1].State = impl.PdHook
	want.Pods[1] = impl.PodAt{State: 2, Since: 40}
	then("hook", said{impl.OdHook, 1, 0}, impl.Rec{Kind: 2, A: 1, B: 2})
	want.Pods[1].State = 4
	then("exit of one that is told", said{impl.OdExit, 1, 0}, impl.Rec{Kind: 2, A: 1, B: 4})
	want.Pods[2] = impl.PodAt{State: 5, Since: 40}
	then("exit of one that runs", said{impl.OdExit, 2, 0}, impl.Rec{Kind: 2, A: 2, B: 5})
}

func TestPromise10EachKindRefused(t *testing.T) {
	p := smallPlan()
	idle, cordoned, draining := readyState(0), readyState(1), readyState(2)
	shutting, releasing := readyState(3), readyState(4)
	wantNot(t, "cordoned", p, cordoned, impl.CdPhase, said{impl.OdCordon, 0, 0}, said{impl.OdEvict, 0, 0})
	wantNot(t, "idle", p, idle, impl.CdPhase,
		said{impl.OdDrain, 0, 0}, said{impl.OdEvict, 0, 0}, said{impl.OdShut, 0, 0}, said{impl.OdCancel, 0, 0})
	wantNot(t, "draining", p, draining, impl.CdPhase, said{impl.OdCordon, 0, 0}, said{impl.OdDrain, 0, 0})
	wantNot(t, "draining, no such one", p, draining, impl.CdNone, said{impl.OdEvict, 3, 0}, said{impl.OdLock, 8, 0},
		said{impl.OdUnlock, 8, 0}, said{impl.OdHook, 3, 0}, said{impl.OdExit, 3, 0}, said{impl.OdBusy, 5, 1})
	wantNot(t, "shutting", p, shutting, impl.CdPhase, said{impl.OdShut, 0, 0}, said{impl.OdCancel, 0, 0}, said{impl.OdLock, 3, 0})
	wantNot(t, "releasing", p, releasing, impl.CdPhase, said{impl.OdBusy, 0, 1}, said{impl.OdShut, 0, 0}, said{impl.OdLock, 3, 0})
	wantNot(t, "draining, busy so often", p, draining, impl.CdBad, said{impl.OdBusy, 0, 0}, said{impl.OdBusy, 0, 6})
	wantNot(t, "draining, not so", p, draining, impl.CdState, said{impl.OdEvict, 1, 0}, said{impl.OdLock, 1, 0},
		said{impl.OdUnlock, 3, 0}, said{impl.OdHook, 0, 0})
	draining.Pods[0].State = impl.PdKill
	draining.Mounts[1], draining.Mounts[2] = impl.MountAt{}, impl.MountAt{Held: true, Busy: 1}
	wantNot(t, "draining, too few", p, draining, impl.CdBudget, said{impl.OdEvict, 2, 0})
	draining.Pods[0].State = impl.PdStopped
	wantNot(t, "draining, ended and not free", p, draining, impl.CdState,
		said{impl.OdExit, 0, 0}, said{impl.OdBusy, 1, 1}, said{impl.OdBusy, 2, 1})
}

func TestPromise10EachPhase(t *testing.T) {
	for _, c := range readyCommands() {
		for phase := range int64(9) {
			if slices.Contains(c.phases, phase) {
				wantDone(t, "its phase", smallPlan(), readyState(phase), c.said, c.recs...)
			} else {
				wantNot(t, "not now", smallPlan(), readyState(phase), impl.CdPhase, c.said)
			}
		}
	}
}

// Where there is no such one, that is the code, whatever else speaks against it.
func TestPromise10NoneIsNamedFirst(t *testing.T) {
	for phase := range int64(9) {
		s := readyState(phase)
		s.Locks = []int64{0, 1, 2, 3, 4, 5, 6, 7}
		for i := range s.Mounts {
			s.Mounts[i] = impl.MountAt{}
		}
		for i := range s.Pods {
			s.Pods[i].State = impl.PdEvicted
		}
		for _, b := range []int64{math.MinInt64, -1, 0, 1, 5, 6, math.MaxInt64} {
			wantNot(t, "no such pod", smallPlan(), s, impl.CdNone,
				said{impl.OdEvict, 3, b}, said{impl.OdHook, 3, b}, said{impl.OdExit, 3, b}, said{impl.OdEvict, -1, b})
			wantNot(t, "no such one", smallPlan(), s, impl.CdNone,
				said{impl.OdLock, 8, b}, said{impl.OdUnlock, 8, b}, said{impl.OdLock, -1, b}, said{impl.OdUnlock, -1, b})
			wantNot(t, "no such mount", smallPlan(), s, impl.CdNone, said{impl.OdBusy, 5, b}, said{impl.OdBusy, -1, b})
		}
	}
}

func TestPromise10PhaseIsNamedAheadOfState(t *testing.T) {
	for phase := range int64(9) {
		s := readyState(phase)
		s.Pods[0].State = impl.PdStopped
		s.Mounts[1], s.Mounts[2] = impl.MountAt{}, impl.MountAt{Held: true, Busy: 3}
		evict, lock, busy := int64(impl.CdPhase), int64(impl.CdPhase), int64(impl.CdPhase)
		if phase == impl.PhDraining {
			evict = impl.CdState
		}
		if phase < impl.PhShutting {
			lock = impl.CdState
		}
		if phase < impl.PhReleasing {
			busy = impl.CdState
		}
		wantNot(t, "a pod that does not run", smallPlan(), s, evict, said{impl.OdEvict, 0, 0}, said{impl.OdEvict, 1, 0})
		wantNot(t, "who holds a lock already", smallPlan(), s, lock, said{impl.OdLock, 1, 0})
		wantNot(t, "a mount that is not held or is busy", smallPlan(), s, busy, said{impl.OdBusy, 1, 1}, said{impl.OdBusy, 2, 5})
		wantNot(t, "so often", smallPlan(), s, impl.CdBad,
			said{impl.OdBusy, 1, 0}, said{impl.OdBusy, 2, 6}, said{impl.OdBusy, 0, 0}, said{impl.OdBusy, 0, 6})
	}
}

// The state of a pod goes ahead of what its group must have.
func TestPromise10StateIsNamedAheadOfBudget(t *testing.T) {
	for state := range int64(7) {
		p := groupsPlan([]int64{2}, 0, 0)
		s, code := draining(p, state), int64(impl.CdState)
		if state == impl.PdRunning {
			code = impl.CdBudget
		}
		wantNot(t, "too few are left", p, s, code, said{impl.OdEvict, 0, 0})
		wantNot(t, "too few are left", p, s, impl.CdBudget, said{impl.OdEvict, 1, 0})
		s.Phase = impl.PhShutting
		wantNot(t, "too few are left, not now", p, s, impl.CdPhase, said{impl.OdEvict, 0, 0}, said{impl.OdEvict, 1, 0})
	}
}

func TestPromise10PodsInEachState(t *testing.T) {
	for pod := range int64(12) {
		for state := range int64(7) {
			p := groupsPlan([]int64{0, 3}, 0, 1, 0, 1, 0, 1, 0, 1, 0, 1, 0, 1)
			s := draining(p)
			s.Clock, s.Pods[pod] = 30, impl.PodAt{State: state, Since: 30}
			want := func(kind int64, next ...int64) {
				t.Helper()
				if next == nil {
					wantNot(t, "a pod in this state", p, s, impl.CdState, said{kind, pod, 0})
					return
				}
				made := wantDone(t, "a pod in this state", p, s, said{kind, pod, 0}, impl.Rec{Kind: impl.RcPod, A: pod, B: next[0]})
				if (made.Pods[pod] != impl.PodAt{State: next[0], Since: 30}) {
					t.Errorf("pod %d is %+v behind %d", pod, made.Pods[pod], kind)
				}
			}
			want(impl.OdEvict, [][]int64{{impl.PdEvicted}, nil, nil, nil, nil, nil, nil}[state]...)
			want(impl.OdHook, [][]int64{nil, {impl.PdTerm}, nil, nil, nil, nil, nil}[state]...)
			want(impl.OdExit, [][]int64{{impl.PdFailed}, {impl.PdFailed}, {impl.PdStopped}, {impl.PdStopped}, nil, nil, nil}[state]...)
		}
	}
}

// wantThere checks of these kinds that there are just count that A can name.
func wantThere(t *testing.T, name string, p impl.Plan, s impl.State, count int64, kinds []int64) {
	t.Helper()
	for _, kind := range kinds {
		for _, a := range slices.Concat(someNumbers(), notNumbers(), []int64{count - 1, count, count + 1}) {
			list, code := impl.Commanded(p, s, kind, a, 1)
			if there := 0 <= a && a < count; there != (code != impl.CdNone) || !there && len(list) != 0 {
				t.Errorf("%s: %d of %d answers %v, %d, and there are %d", name, kind, a, list, code, count)
			}
		}
	}
}

func TestPromise10WhichOne(t *testing.T) {
	for count := range int64(13) {
		p := impl.Plan{Mins: []int64{0}, Probes: 1, Tries: 1}
		for i := range count {
			p.Pods = append(p.Pods, impl.Pod{})
			// Of mounts there are others than of pods.
			if i > 1 {
				p.Mounts = append(p.Mounts, impl.Mount{Pod: i, Parent: -1})
			}
		}
		for phase := range int64(9) {
			s := plainNew(p)
			s.Phase, s.Cordon = phase, phase != impl.PhIdle
			wantThere(t, "pods", p, s, count, kindsOfPod())
			wantThere(t, "who locks", p, s, 8, kindsOfLock())
			wantThere(t, "mounts", p, s, max(count-2, 0), kindsOfMount())
		}
	}
	wantThere(t, "as many as can be", fullPlan(), edgeState(), 12, append(kindsOfPod(), kindsOfMount()...))
	wantThere(t, "as many as can be", fullPlan(), edgeState(), 8, kindsOfLock())
}

// The first and the last one are done as any other is, and of each that is not
// there nothing is.
func TestPromise10TheFirstAndTheLast(t *testing.T) {
	p := fullPlan()
	p.Mins = []int64{0, 0, 0, 0}
	s := draining(p)
	for _, a := range []int64{0, 1, 10, 11} {
		wantDone(t, "evict", p, s, said{impl.OdEvict, a, 0}, impl.Rec{Kind: 2, A: a, B: 6})
		wantDone(t, "exit", p, s, said{impl.OdExit, a, 0}, impl.Rec{Kind: 2, A: a, B: 5})
		wantDone(t, "busy", p, s, said{impl.OdBusy, a, 5}, impl.Rec{Kind: 3, A: a, B: 5})
		s.Pods[a].State = impl.PdHook
		wantDone(t, "hook", p, s, said{impl.OdHook, a, 0}, impl.Rec{Kind: 2, A: a, B: 2})
	}
	for _, who := range []int64{0, 7} {
		locked := wantDone(t, "lock", p, s, said{impl.OdLock, who, 0}, impl.Rec{Kind: 6, A: who})
		wantDone(t, "unlock", p, locked, said{impl.OdUnlock, who, 0}, impl.Rec{Kind: 7, A: who})
	}
	for _, a := range append(notNumbers(), 12, -1) {
		wantNot(t, "of none", p, s, impl.CdNone,
			said{impl.OdEvict, a, 1}, said{impl.OdExit, a, 1}, said{impl.OdHook, a, 1}, said{impl.OdBusy, a, 1})
	}
}

func TestPromise10WhatIsNotNamedIsNotLookedAt(t *testing.T) {
	numbers := slices.Concat(someNumbers(), fieldEdges(), wrongFields())
	for phase := range int64(9) {
		for _, c := range readyCommands() {
			s, code := readyState(phase), int64(impl.CdPhase)
			if slices.Contains(c.phases, phase) {
				code = impl.CdOk
			}
			for _, n := range numbers {
				others := []said{}
				switch c.said.kind {
				case impl.OdCordon, impl.OdDrain, impl.OdShut, impl.OdCancel:
					others = append(others, said{c.said.kind, n, 0}, said{c.said.kind, 0, n}, said{c.said.kind, n, n}, said{c.said.kind, n, -n})
				case impl.OdEvict, impl.OdLock, impl.OdUnlock, impl.OdHook, impl.OdExit:
					others = append(others, said{c.said.kind, c.said.a, n})
				}
				for _, other := range others {
					if code != impl.CdOk {
						wantNot(t, "another number", smallPlan(), s, code, other)
					} else {
						wantDone(t, "another number", smallPlan(), s, other, c.recs...)
					}
				}
			}
		}
	}
}

// wantShut checks what is told of the shut of a state that is cordoned, and of
// one that drains.
func wantShut(t *testing.T, name string, p impl.Plan, clock, by, band int64) {
	t.Helper()
	for _, phase := range []int64{impl.PhCordoned, impl.PhDraining} {
		s := draining(p)
		s.Phase, s.Clock = phase, clock
		made := wantDone(t, name, p, s, said{impl.OdShut, 0, 0}, impl.Rec{Kind: impl.RcLockBy, A: by},
			impl.Rec{Kind: impl.RcBand, A: band}, impl.Rec{Kind: impl.RcPhase, A: impl.PhShutting})
		if made.LockBy != by || made.Band != band || made.Phase != impl.PhShutting || !made.Cordon || made.Clock != clock {
			t.Errorf("%s: it is %+v when it shuts", name, made)
		}
	}
}

func TestPromise10ShutWithLocksUpToTheLast(t *testing.T) {
	for _, p := range []impl.Plan{{Probes: 1, Tries: 1}, inBands(2, 2), inBands(5, 3, 4), fullBands()} {
		band := int64(impl.MaxBands)
		for _, d := range p.Pods {
			band = min(band, d.Band)
		}
		for _, most := range []int64{0, 1, 2, 9, 499, 500} {
			p.LockMax = most
			wantShut(t, "at first", p, 0, most, band)
			wantShut(t, "at some time", p, 20, most+20, band)
			wantShut(t, "in the middle", p, 500000, 500000+most, band)
			wantShut(t, "at the last tick", p, 1000000, 1000000, band)
			for more := int64(-3); more <= 3; more++ {
				clock := 1000000 - most + more
				if clock <= 1000000 {
					wantShut(t, "around the last one", p, clock, min(1000000, 1000000+more), band)
				}
			}
		}
	}
	p := inBands(2)
	p.LockMax = 500
	wantShut(t, "just below", p, 999499, 999999, 2)
	wantShut(t, "met", p, 999500, 1000000, 2)
	wantShut(t, "passed by one", p, 999501, 1000000, 2)
}

func TestPromise10ShutFromTheFirstBandOn(t *testing.T) {
	wantShut(t, "no pods", impl.Plan{Probes: 1, Tries: 1}, 20, 20, 6)
	wantShut(t, "groups alone", groupsPlan([]int64{1, 1}), 20, 20, 6)
	for band := range int64(6) {
		wantShut(t, "one pod", inBands(band), 20, 20+inBands(band).LockMax, band)
		wantShut(t, "one band", inBands(band, band, band), 20, 20+inBands(band).LockMax, band)
		for other := range int64(6) {
			wantShut(t, "two bands", inBands(5, other, band), 20, 20+inBands(5).LockMax, min(band, other))
			wantShut(t, "several bands", inBands(band, 5, other, 4, band), 20, 20+inBands(5).LockMax, min(band, other, 4))
		}
	}
	wantShut(t, "all bands, the last one first", inBands(5, 4, 3, 2, 1, 0), 20, 20+inBands(5).LockMax, 0)
}

// Who is ended already, and what the state told of bands and locks before, is
// no matter.
func TestPromise10ShutWhateverWasBefore(t *testing.T) {
	p := inBands(3, 1, 2)
	s := draining(p, 0, impl.PdEvicted, impl.PdStopped)
	s.Band, s.LockBy, s.Locks, s.Clock = 5, 999999, []int64{0, 7}, 10
	wantDone(t, "the first band is down", p, s, said{impl.OdShut, 0, 0},
		impl.Rec{Kind: 11, A: 10 + p.LockMax}, impl.Rec{Kind: 9, A: 1}, impl.Rec{Kind: 1, A: 3})
}

func TestPromise10BusyHowOften(t *testing.T) {
	for _, b := range slices.Concat(someNumbers(), fieldEdges(), wrongFields(), []int64{1 << 32, 1<<32 + 1, 257}) {
		for phase := range int64(9) {
			s, c := readyState(phase), said{impl.OdBusy, 3, b}
			switch {
			case b < 1 || b > 5:
				wantNot(t, "so often", smallPlan(), s, impl.CdBad, c)
			case phase >= impl.PhReleasing:
				wantNot(t, "so often, not now", smallPlan(), s, impl.CdPhase, c)
			default:
				made := wantDone(t, "so often", smallPlan(), s, c, impl.Rec{Kind: impl.RcBusy, A: 3, B: b})
				wantNot(t, "once more", smallPlan(), made, impl.CdState, c, said{impl.OdBusy, 3, 1}, said{impl.OdBusy, 3, 5})
			}
		}
	}
}

func TestPromise10BusyMounts(t *testing.T) {
	for mount := range int64(12) {
		for busy := range int64(6) {
			p, s := fullPlan(), draining(fullPlan())
			s.Mounts[mount].Busy = busy
			if busy > 0 {
				wantNot(t, "it is busy", p, s, impl.CdState, said{impl.OdBusy, mount, 1})
			} else {
				wantDone(t, "it is not", p, s, said{impl.OdBusy, mount, 1}, impl.Rec{Kind: 3, A: mount, B: 1})
			}
			s.Mounts[mount] = impl.MountAt{}
			wantNot(t, "it is not held", p, s, impl.CdState, said{impl.OdBusy, mount, 1})
			wantDone(t, "another one", p, s, said{impl.OdBusy, (mount + 1) % 12, 2}, impl.Rec{Kind: 3, A: (mount + 1) % 12, B: 2})
		}
	}
}

// Whoever of the eight holds a lock, in each phase.
func TestPromise10Locks(t *testing.T) {
	for set := range 256 {
		for phase := range int64(9) {
			s := readyState(phase)
			s.Locks = nil
			for who := range int64(8) {
				if set>>who&1 == 1 {
					s.Locks = append(s.Locks, who)
				}
			}
			for who := range int64(8) {
				lock, unlock := said{impl.OdLock, who, 0}, said{impl.OdUnlock, who, 0}
				holds := set>>who&1 == 1
				switch {
				case phase >= impl.PhShutting:
					wantNot(t, "too late", smallPlan(), s, impl.CdPhase, lock)
				case holds:
					wantNot(t, "it holds one", smallPlan(), s, impl.CdState, lock)
				default:
					wantDone(t, "it holds none", smallPlan(), s, lock, impl.Rec{Kind: 6, A: who})
				}
				if holds {
					wantDone(t, "it holds one", smallPlan(), s, unlock, impl.Rec{Kind: 7, A: who})
				} else {
					wantNot(t, "it holds none", smallPlan(), s, impl.CdState, unlock)
				}
			}
		}
	}
}

// otherKinds are those of later chapters, and of none.
func otherKinds() []int64 {
	list := []int64{0, 11, 12, 13, 14, 15, 100, 256, 257, 1 << 32, 1<<32 + 1, 1<<32 + 10, -1 << 32, -1<<32 + 1}
	return append(list, -1, -2, -10, -13, -255, 1000000, math.MinInt64, math.MinInt64+1, math.MaxInt64-1, math.MaxInt64)
}

func TestPromise10KindsThatAreNone(t *testing.T) {
	for phase := range int64(9) {
		for _, kind := range otherKinds() {
			for _, a := range []int64{math.MinInt64, -1, 0, 1, 3, 8, 1000000, math.MaxInt64} {
				wantNot(t, "no command", smallPlan(), readyState(phase), impl.CdBad, said{kind, a, 0}, said{kind, a, 1}, said{kind, a, a})
			}
		}
	}
}

// wantBad checks that nothing can be said of what is not right, even where
// another code would apply.
func wantBad(t *testing.T, name string, p impl.Plan, s impl.State) {
	t.Helper()
	for kind := range int64(14) {
		for _, a := range []int64{-1, 0, 1, 2, 3, 12, math.MaxInt64} {
			wantNot(t, name, p, s, impl.CdBad, said{kind, a, -1}, said{kind, a, 0}, said{kind, a, 1}, said{kind, a, 6})
		}
	}
}

func TestPromise10StatesThatAreNotRight(t *testing.T) {
	for phase := range int64(9) {
		for name, spoil := range stateSpoils() {
			s := readyState(phase)
			spoil(&s)
			wantBad(t, name, smallPlan(), s)
		}
	}
	for name, spoil := range stateSpoils() {
		s := edgeState()
		spoil(&s)
		wantBad(t, name, fullPlan(), s)
	}
	wantBad(t, "the zero state", smallPlan(), impl.State{})
	wantBad(t, "of another plan", smallPlan(), draining(fullPlan()))
	wantBad(t, "of another plan", fullPlan(), readyState(2))
	nobody := impl.State{Phase: impl.PhDraining}
	wantBad(t, "not cordoned", impl.Plan{Probes: 1, Tries: 1}, nobody)
	nobody.Cordon = true
	wantDone(t, "cordoned", impl.Plan{Probes: 1, Tries: 1}, nobody, said{impl.OdCancel, 0, 0}, impl.Rec{Kind: impl.RcPhase})
}

func TestPromise10PlansThatAreNotRight(t *testing.T) {
	for name, spoil := range wrongPlans() {
		for phase := range int64(4) {
			p, s := smallPlan(), readyState(phase)
			spoil(&p)
			wantBad(t, name+", a state that did fit", p, s)
			fits := plainNew(p)
			fits.Phase, fits.Cordon = phase, phase != impl.PhIdle
			wantBad(t, name+", a state that would fit", p, fits)
		}
	}
	wantBad(t, "the zero plan", impl.Plan{}, impl.State{})
}

// All commands that can be told apart, in each phase, with two pods in all
// states and two mounts of each kind.
func TestPromise10AllOfTwo(t *testing.T) {
	p := groupsPlan([]int64{1, 0}, 0, 0)
	p.Mounts = []impl.Mount{{Pod: 0, Parent: -1}, {Pod: 1, Parent: 0}}
	mounts := []impl.MountAt{{}, {Held: true}, {Held: true, Busy: 5}}
	for n := range int64(9 * 7 * 7 * 9) {
		s := draining(p, n/9%7, n/63%7)
		s.Phase, s.Cordon, s.Locks = n%9, n%9 != 0, []int64{0, 2}
		s.Mounts[0], s.Mounts[1] = mounts[n/441%3], mounts[n/1323]
		for a := int64(-1); a <= 3; a++ {
			for kind := range int64(12) {
				wantAsPlainCommand(t, "two of each", p, s, said{kind, a, 5})
			}
			for _, b := range []int64{0, 1, 6} {
				wantAsPlainCommand(t, "two of each", p, s, said{impl.OdBusy, a, b})
			}
		}
	}
}

func TestPromise10MadeStates(t *testing.T) {
	counts := map[int64]int{}
	for seed := range int64(300) {
		p := madePlan(seed)
		for group := range p.Mins {
			p.Mins[group] %= 3
		}
		s := madeState(p, seed+3000)
		for phase := range int64(9) {
			s.Phase, s.Cordon = phase, phase != impl.PhIdle
			for kind := range int64(12) {
				for a := int64(-1); a <= 13; a++ {
					_, code := wantAsPlainCommand(t, "a made one", p, s, said{kind, a, (a + seed) % 7})
					counts[code]++
				}
			}
		}
	}
	for code := range int64(impl.CdBudget) + 1 {
		if counts[code] < 100 {
			t.Errorf("only %d commands answer %d", counts[code], code)
		}
	}
}

// Whatever is said, one command after the other, it is right at all times, and
// what is refused changes nothing.
func TestPromise10OneAfterTheOther(t *testing.T) {
	done := map[int64]int{}
	for seed := range int64(300) {
		draw := func(below int64) int64 {
			seed = (seed*1103515245 + 12345) % (1 << 31)
			return seed / 65536 % below
		}
		p := madePlan(seed)
		for group := range p.Mins {
			p.Mins[group] %= 4
		}
		s := plainNew(p)
		for range 200 {
			// Else hardly any pod would be left that runs, and it would soon be shut.
			if draw(15) == 0 {
				s = plainNew(p)
				s.Phase, s.Clock = draw(4), draw(1000001)
				s.Cordon = s.Phase != impl.PhIdle
			}
			if pod := draw(30); pod < int64(len(s.Pods)) {
				s.Pods[pod].State = impl.PdHook
			}
			c := said{1 + draw(10), draw(13), draw(7)}
			made, code := wantAsPlainCommand(t, "a made command", p, s, c)
			if code == impl.CdOk {
				done[c.kind]++
			}
			s = made
		}
	}
	for kind := int64(1); kind <= 10; kind++ {
		if done[kind] < 50 {
			t.Errorf("only %d of kind %d are done", done[kind], kind)
		}
	}
}
