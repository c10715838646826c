package tests

import (
	"math"
	"slices"
	"testing"

	"loop.example/g00767/impl"
)

// mostOf are of each kind the greatest A and the greatest B that an order of it
// may have: 0 where the kind does not name it.
func mostOf() map[int64][2]int64 {
	return map[int64][2]int64{
		1: {0, 0}, 2: {0, 0}, 3: {1000000, 0}, 4: {0, 0}, 5: {0, 0}, 6: {1000000, 0}, 7: {1000000, 0},
		8: {1000000, 0}, 9: {1000000, 0}, 10: {1000000, 1000000}, 11: {0, 0}, 12: {1000000, 0}, 13: {1, 0},
	}
}

func plainOrder(o impl.Order) bool {
	most, known := mostOf()[o.Kind]
	return known && 0 <= o.A && o.A <= most[0] && 0 <= o.B && o.B <= most[1]
}

// plainPlanned hands an order on to what the other chapters' tests tell of their
// chapters.
func plainPlanned(p impl.Plan, s impl.State, o impl.Order) ([]impl.Rec, int64) {
	if !impl.StateOk(p, s) || !plainOrder(o) {
		return nil, 1
	}
	switch o.Kind {
	case 11:
		return plainTick(p, s)
	case 12:
		return plainBoot(p, s, o.A)
	case 13:
		return plainProbe(p, s, o.A == 1)
	}
	return plainCommanded(p, s, said{o.Kind, o.A, o.B})
}

// ofChapter is what the chapter of an order answers of it, right or not; of no
// chapter it is nothing.
func ofChapter(p impl.Plan, s impl.State, o impl.Order) ([]impl.Rec, int64) {
	switch o.Kind {
	case impl.OdTick:
		return impl.TickRecs(p, s)
	case impl.OdBoot:
		return impl.BootRecs(p, s, o.A)
	case impl.OdProbe:
		return impl.ProbeRecs(p, s, o.A == 1)
	}
	return impl.Commanded(p, s, o.Kind, o.A, o.B)
}

func wantOrders(t *testing.T, name string, right bool, these ...impl.Order) {
	t.Helper()
	for _, o := range these {
		if impl.OrderOk(o) != right {
			t.Errorf("%s: OrderOk of %+v is not %v", name, o, right)
		}
	}
}

// wantPlanned checks that an order has just these records, as its chapter has
// them, and that they make a right state; it answers that.
func wantPlanned(t *testing.T, name string, p impl.Plan, s impl.State, o impl.Order, want ...impl.Rec) impl.State {
	t.Helper()
	if list, code := ofChapter(p, s, o); code != impl.CdOk || !slices.Equal(list, want) {
		t.Errorf("%s: the chapter of %+v answers %v, %d, not %v", name, o, list, code, want)
	}
	got, code := impl.Planned(p, s, o)
	return wantMade(t, name, p, s, got, code, want)
}

// wantUnplanned checks of these orders that nothing comes of them, for this
// reason.
func wantUnplanned(t *testing.T, name string, p impl.Plan, s impl.State, code int64, these ...impl.Order) {
	t.Helper()
	for _, o := range these {
		if list, got := impl.Planned(p, s, o); got != code || len(list) != 0 {
			t.Errorf("%s: Planned of %+v is %v, %d, not nothing and %d, of %+v", name, o, list, got, code, s)
		}
	}
}

// wantAsPlainOrder answers the state that is left, and the code.
func wantAsPlainOrder(t *testing.T, name string, p impl.Plan, s impl.State, o impl.Order) (impl.State, int64) {
	t.Helper()
	want, code := plainPlanned(p, s, o)
	if code != impl.CdOk {
		wantUnplanned(t, name, p, s, code, o)
		return s, code
	}
	return wantPlanned(t, name, p, s, o, want...), code
}

// orderNumbers are those around the limits of a field, and some that look like
// one that would be right, in fewer bits.
func orderNumbers() []int64 {
	return slices.Concat(someNumbers(), fieldEdges(), wrongFields(), []int64{1 << 8, 1 << 16, 1<<33 + 1, -1 << 63, -1<<63 + 1})
}

func TestPromise13OrderOfEachKind(t *testing.T) {
	for kind := int64(-1); kind <= 15; kind++ {
		wantOrders(t, "each kind", 1 <= kind && kind <= 13, impl.Order{Kind: kind})
		for _, a := range []int64{-1, 0, 1, 1000000, 1000001} {
			for _, b := range []int64{-1, 0, 1, 1000000, 1000001} {
				o := impl.Order{Kind: kind, A: a, B: b}
				wantOrders(t, "each kind", plainOrder(o), o)
			}
		}
	}
	for _, kind := range orderNumbers() {
		right := 1 <= kind && kind <= 13
		wantOrders(t, "whatever number it is", right, impl.Order{Kind: kind})
		if !right {
			wantOrders(t, "no kind", false, impl.Order{Kind: kind, A: 1}, impl.Order{Kind: kind, A: 1, B: 1}, impl.Order{Kind: kind, B: 1})
		}
	}
}

func TestPromise13OrderNumbers(t *testing.T) {
	for kind := int64(1); kind <= 13; kind++ {
		for _, a := range orderNumbers() {
			for _, b := range orderNumbers() {
				o := impl.Order{Kind: kind, A: a, B: b}
				wantOrders(t, "whatever numbers they are", plainOrder(o), o)
			}
		}
	}
}

// What a kind names may be any field, and what it does not name is 0.
func TestPromise13OrderWhatIsNamed(t *testing.T) {
	for _, n := range []int64{1, 2, 5, 6, 12, 999999, 1000000} {
		for _, kind := range []int64{impl.OdCordon, impl.OdDrain, impl.OdShut, impl.OdCancel, impl.OdTick} {
			wantOrders(t, "none is named", false, impl.Order{Kind: kind, A: n}, impl.Order{Kind: kind, B: n}, impl.Order{Kind: kind, A: n, B: n})
		}
		for _, kind := range []int64{impl.OdEvict, impl.OdLock, impl.OdUnlock, impl.OdHook, impl.OdExit, impl.OdBoot} {
			wantOrders(t, "A is named", true, impl.Order{Kind: kind, A: n})
			wantOrders(t, "B is not", false, impl.Order{Kind: kind, B: n}, impl.Order{Kind: kind, A: n, B: n})
		}
		wantOrders(t, "both are named", true, impl.Order{Kind: impl.OdBusy, A: n}, impl.Order{Kind: impl.OdBusy, B: n}, impl.Order{Kind: impl.OdBusy, A: n, B: n})
		wantOrders(t, "B is not named", false, impl.Order{Kind: impl.OdProbe, B: n}, impl.Order{Kind: impl.OdProbe, A: 1, B: n})
	}
}

// Whether there is such a one, and whether it can be so often, is asked by the
// chapter.
func TestPromise13OrderNoMoreThanThis(t *testing.T) {
	wantOrders(t, "no id, but an order", true, impl.Order{Kind: impl.OdBoot})
	wantOrders(t, "not so often, but an order", true,
		impl.Order{Kind: impl.OdBusy}, impl.Order{Kind: impl.OdBusy, A: 3}, impl.Order{Kind: impl.OdBusy, A: 3, B: impl.MaxBusy + 1})
	for _, kind := range slices.Concat(kindsOfPod(), kindsOfLock(), kindsOfMount()) {
		wantOrders(t, "there is none, but an order", true,
			impl.Order{Kind: kind, A: 8}, impl.Order{Kind: kind, A: 12}, impl.Order{Kind: kind, A: 1000000})
	}
}

func TestPromise13OrderOfAProbe(t *testing.T) {
	wantOrders(t, "ill and good", true, impl.Order{Kind: impl.OdProbe}, impl.Order{Kind: impl.OdProbe, A: 1})
	for _, a := range []int64{-1, 2, 3, 7, 13, 256, 257, 999999, 1000000, 1000001, 1<<32 + 1, math.MinInt64, math.MaxInt64} {
		wantOrders(t, "neither", false, impl.Order{Kind: impl.OdProbe, A: a})
	}
}

// orderOf is a command as an order.
func orderOf(c said) impl.Order { return impl.Order{Kind: c.kind, A: c.a, B: c.b} }

func TestPromise13CommandsDone(t *testing.T) {
	for _, c := range readyCommands() {
		for phase := range int64(9) {
			if slices.Contains(c.phases, phase) {
				wantPlanned(t, "its phase", smallPlan(), readyState(phase), orderOf(c.said), c.recs...)
			} else {
				wantUnplanned(t, "not now", smallPlan(), readyState(phase), impl.CdPhase, orderOf(c.said))
			}
		}
	}
}

// A refusedOrder is one that is right, and refused with this code.
type refusedOrder struct {
	name string
	s    impl.State
	code int64
	o    impl.Order
}

// refusedOrders has of each kind one for each code that refuses it. Pod 0 of
// worn is killed, so that pod 2 is the only one of its group that runs; pod 1 has
// its hook; mount 1 is not held, and mount 2 is busy.
func refusedOrders() []refusedOrder {
	worn := readyState(impl.PhDraining)
	worn.Pods[0].State = impl.PdKill
	worn.Mounts[1], worn.Mounts[2] = impl.MountAt{}, impl.MountAt{Held: true, Busy: 1}
	down := ownState(worn)
	down.Pods[0].State = impl.PdStopped
	spent := readyState(impl.PhDraining)
	spent.Clock = 1000000
	booted := inPhase(busyState(), impl.PhBooted)
	return []refusedOrder{
		{"cordoned", readyState(1), impl.CdPhase, impl.Order{Kind: impl.OdCordon}},
		{"idle", readyState(0), impl.CdPhase, impl.Order{Kind: impl.OdDrain}},
		{"no such pod", worn, impl.CdNone, impl.Order{Kind: impl.OdEvict, A: 3}},
		{"idle", readyState(0), impl.CdPhase, impl.Order{Kind: impl.OdEvict, A: 2}},
		{"it has its hook", worn, impl.CdState, impl.Order{Kind: impl.OdEvict, A: 1}},
		{"too few", worn, impl.CdBudget, impl.Order{Kind: impl.OdEvict, A: 2}},
		{"shutting", readyState(3), impl.CdPhase, impl.Order{Kind: impl.OdShut}},
		{"shutting", readyState(3), impl.CdPhase, impl.Order{Kind: impl.OdCancel}},
		{"no such one", worn, impl.CdNone, impl.Order{Kind: impl.OdLock, A: 8}},
		{"shutting", readyState(3), impl.CdPhase, impl.Order{Kind: impl.OdLock, A: 3}},
		{"it holds one", worn, impl.CdState, impl.Order{Kind: impl.OdLock, A: 1}},
		{"no such one", worn, impl.CdNone, impl.Order{Kind: impl.OdUnlock, A: 1000000}},
		{"it holds none", worn, impl.CdState, impl.Order{Kind: impl.OdUnlock, A: 3}},
		{"no such pod", worn, impl.CdNone, impl.Order{Kind: impl.OdHook, A: 3}},
		{"it has no hook", worn, impl.CdState, impl.Order{Kind: impl.OdHook, A: 2}},
		{"no such pod", worn, impl.CdNone, impl.Order{Kind: impl.OdExit, A: 12}},
		{"it is stopped", down, impl.CdState, impl.Order{Kind: impl.OdExit}},
		{"no such mount", worn, impl.CdNone, impl.Order{Kind: impl.OdBusy, A: 5, B: 1}},
		{"not once", worn, impl.CdBad, impl.Order{Kind: impl.OdBusy, A: 3}},
		{"too often", worn, impl.CdBad, impl.Order{Kind: impl.OdBusy, A: 3, B: 6}},
		{"releasing", readyState(4), impl.CdPhase, impl.Order{Kind: impl.OdBusy, A: 3, B: 1}},
		{"not held", worn, impl.CdState, impl.Order{Kind: impl.OdBusy, A: 1, B: 1}},
		{"busy already", worn, impl.CdState, impl.Order{Kind: impl.OdBusy, A: 2, B: 1}},
		{"the last tick is over", spent, impl.CdSpent, impl.Order{Kind: impl.OdTick}},
		{"no id", booted, impl.CdBad, impl.Order{Kind: impl.OdBoot}},
		{"it is that boot", booted, impl.CdSame, impl.Order{Kind: impl.OdBoot, A: 7}},
		{"idle", readyState(0), impl.CdPhase, impl.Order{Kind: impl.OdProbe, A: 1}},
		{"shutting", busyState(), impl.CdPhase, impl.Order{Kind: impl.OdProbe}},
	}
}

func TestPromise13EachCodeThatRefuses(t *testing.T) {
	for _, c := range refusedOrders() {
		wantOrders(t, c.name, true, c.o)
		wantUnplanned(t, c.name, smallPlan(), c.s, c.code, c.o)
		if list, code := ofChapter(smallPlan(), c.s, c.o); code != c.code || len(list) != 0 {
			t.Errorf("%s: the chapter of %+v answers %v, %d, not nothing and %d", c.name, c.o, list, code, c.code)
		}
	}
}

func TestPromise13Ticks(t *testing.T) {
	tick, p := impl.Order{Kind: impl.OdTick}, smallPlan()
	clock := func(c int64) impl.Rec { return impl.Rec{Kind: impl.RcClock, A: c} }
	for phase := range int64(9) {
		s := readyState(phase)
		s.Locks = nil
		switch phase {
		case impl.PhShutting:
			wantPlanned(t, "shutting", p, s, tick, clock(21), podIs(1, 2))
		case impl.PhReleasing:
			wantPlanned(t, "releasing", p, s, tick, clock(21))
		default:
			wantPlanned(t, "any other time", p, s, tick, clock(21))
		}
		s.Clock = 999999
		wantAsPlainOrder(t, "the last one", p, s, tick)
		s.Clock = 1000000
		wantUnplanned(t, "the last one is over", p, s, impl.CdSpent, tick)
	}
	wantPlanned(t, "all are down", p, ended(p), tick, clock(1), free(1), free(2), free(4))
	wantPlanned(t, "band 4", p, shutting(p, 4, 4, 4, 3), tick, clock(41), podIs(2, 4))
	wantPlanned(t, "band 4 is down", p, shutting(p, 4, 4, 4, 4), tick, clock(41), bandIs(6))
	wantPlanned(t, "no more bands", p, shutting(p, 6, 4, 4, 4), tick, clock(41), phaseIs(4))
}

func TestPromise13Boots(t *testing.T) {
	p := smallPlan()
	for phase := range int64(9) {
		s := inPhase(busyState(), phase)
		for _, id := range []int64{0, 1, 6, 7, 8, 128, 999999, 1000000} {
			o := impl.Order{Kind: impl.OdBoot, A: id}
			switch id {
			case 0:
				wantUnplanned(t, "no id", p, s, impl.CdBad, o)
			case 7:
				wantUnplanned(t, "it is that boot", p, s, impl.CdSame, o)
			default:
				recs := []impl.Rec{bootIs(id), podIs(0, 5), podIs(2, 5), free(0), free(2), free(3), give(1), give(2),
					unlock(1), unlock(4), unlock(6), probeIs(0, 0), phaseIs(6)}
				if phase == impl.PhFailed {
					recs = recs[:len(recs)-1]
				}
				made := wantPlanned(t, "another boot", p, s, o, recs...)
				wantUnplanned(t, "it again", p, made, impl.CdSame, o)
			}
		}
		s.Boot = 0
		wantUnplanned(t, "no id, and it is Boot", p, s, impl.CdBad, impl.Order{Kind: impl.OdBoot})
	}
}

// A good one and an ill one of the same state are told apart by A alone.
func TestPromise13Probes(t *testing.T) {
	p := smallPlan()
	ill, good := impl.Order{Kind: impl.OdProbe}, impl.Order{Kind: impl.OdProbe, A: 1}
	for phase := range int64(9) {
		if phase != impl.PhBooted && phase != impl.PhChecking {
			wantUnplanned(t, "not now", p, inPhase(busyState(), phase), impl.CdPhase, ill, good)
			wantUnplanned(t, "not now", p, probed(p, phase, 0, 0), impl.CdPhase, ill, good)
		}
	}
	booted, checking := probed(p, impl.PhBooted, 0, 0), probed(p, impl.PhChecking, 1, 2)
	wantPlanned(t, "the first one is ill", p, booted, ill, probeIs(0, 1), phaseIs(7))
	wantPlanned(t, "the first one is good", p, booted, good, probeIs(1, 1), phaseIs(7))
	wantPlanned(t, "another one is ill", p, checking, ill, probeIs(0, 3))
	wantPlanned(t, "another one is good", p, checking, good, probeIs(2, 3), phaseIs(0))
	checking = probed(p, impl.PhChecking, 1, 4)
	wantPlanned(t, "the last one is ill", p, checking, ill, probeIs(0, 5), phaseIs(8))
	wantPlanned(t, "the last one is good", p, checking, good, probeIs(2, 5), phaseIs(0))
}

// Where the tries are spent already, to which no order leads, Planned answers as
// chapter 12 does.
func TestPromise13ProbesWhereTheTriesAreSpent(t *testing.T) {
	p := smallPlan()
	for _, phase := range []int64{impl.PhBooted, impl.PhChecking} {
		for a := range int64(2) {
			s := probed(p, phase, 0, 5)
			got, code := impl.Planned(p, s, impl.Order{Kind: impl.OdProbe, A: a})
			if code != impl.CdOk || !slices.Equal(got, []impl.Rec{probeIs(a, 6), phaseIs(8)}) {
				t.Errorf("a probe of %d is %v, %d, of %+v", a, got, code, s)
			}
		}
	}
}

// wrongOnes are orders like o, but with a number that it does not name, or that
// is no field.
func wrongOnes(o impl.Order) []impl.Order {
	list := []impl.Order{}
	for _, n := range []int64{math.MinInt64, -1, 1, 2, 5, 6, 1000000, 1000001, 1<<32 + 1, math.MaxInt64} {
		list = append(list, impl.Order{Kind: o.Kind, A: o.A, B: n}, impl.Order{Kind: o.Kind, A: n, B: o.B}, impl.Order{Kind: o.Kind, A: n, B: n})
	}
	return slices.DeleteFunc(list, plainOrder)
}

// wantWrongFirst checks of an order that is no right one that this is its code,
// and that its chapter would answer that other one.
func wantWrongFirst(t *testing.T, name string, s impl.State, code int64, o impl.Order) {
	t.Helper()
	wantOrders(t, name, false, o)
	wantUnplanned(t, name, smallPlan(), s, impl.CdBad, o)
	if _, got := ofChapter(smallPlan(), s, o); got != code {
		t.Errorf("%s: the chapter of %+v answers %d, not %d", name, o, got, code)
	}
}

func TestPromise13WhatIsNoOrderIsNamedFirst(t *testing.T) {
	for _, c := range readyCommands() {
		for phase := range int64(9) {
			s, o := readyState(phase), orderOf(c.said)
			wantUnplanned(t, "like one of its phase, or not", smallPlan(), s, impl.CdBad, wrongOnes(o)...)
			if c.said.kind == impl.OdBusy {
				continue
			}
			code := int64(impl.CdPhase)
			if slices.Contains(c.phases, phase) {
				code = impl.CdOk
			}
			for _, n := range []int64{-1, 1, 1000000, 1000001} {
				o.B = n
				wantWrongFirst(t, "B is not named", s, code, o)
			}
		}
	}
	for _, c := range refusedOrders() {
		wantUnplanned(t, c.name, smallPlan(), c.s, impl.CdBad, wrongOnes(c.o)...)
		if c.o.Kind != impl.OdBusy {
			wantWrongFirst(t, c.name+", and B is not named", c.s, c.code, impl.Order{Kind: c.o.Kind, A: c.o.A, B: 1})
		}
	}
	for phase := range int64(9) {
		for _, kind := range slices.Concat(kindsOfPod(), kindsOfLock(), kindsOfMount()) {
			for _, a := range []int64{math.MinInt64, -1, 1000001, math.MaxInt64} {
				wantWrongFirst(t, "no field, and there is none", readyState(phase), impl.CdNone, impl.Order{Kind: kind, A: a})
			}
		}
	}
}

func TestPromise13NoOrdersOfTicksBootsAndProbes(t *testing.T) {
	spent := inPhase(busyState(), impl.PhReboot)
	spent.Clock = 1000000
	for _, n := range []int64{math.MinInt64, -1, 1, 2, 1000000, 1000001, math.MaxInt64} {
		for phase := range int64(9) {
			s := inPhase(busyState(), phase)
			wantWrongFirst(t, "a tick of A", s, impl.CdOk, impl.Order{Kind: impl.OdTick, A: n})
			wantWrongFirst(t, "a tick of B", s, impl.CdOk, impl.Order{Kind: impl.OdTick, B: n})
			wantWrongFirst(t, "a boot of B", s, impl.CdOk, impl.Order{Kind: impl.OdBoot, A: 8, B: n})
			wantWrongFirst(t, "the same boot of B", s, impl.CdSame, impl.Order{Kind: impl.OdBoot, A: 7, B: n})
		}
		wantWrongFirst(t, "no tick is left", spent, impl.CdSpent, impl.Order{Kind: impl.OdTick, A: n})
		booted, idle := inPhase(busyState(), impl.PhBooted), readyState(0)
		wantWrongFirst(t, "an ill probe of B", booted, impl.CdOk, impl.Order{Kind: impl.OdProbe, B: n})
		wantWrongFirst(t, "a good probe of B", booted, impl.CdOk, impl.Order{Kind: impl.OdProbe, A: 1, B: n})
		wantWrongFirst(t, "a probe of B, not now", idle, impl.CdPhase, impl.Order{Kind: impl.OdProbe, B: n})
		if n != 1 {
			wantWrongFirst(t, "a probe of A", booted, impl.CdOk, impl.Order{Kind: impl.OdProbe, A: n})
			wantWrongFirst(t, "a probe of A, not now", idle, impl.CdPhase, impl.Order{Kind: impl.OdProbe, A: n})
		}
	}
}

func TestPromise13KindsThatAreNone(t *testing.T) {
	kinds := slices.Concat(wrongFields(), []int64{-13, -1, 0, 14, 15, 100, 256 + 1, 256 + 13, 1<<32 + 11, -1<<32 + 12, math.MaxInt64 - 1})
	for phase := range int64(9) {
		for _, kind := range kinds {
			for _, a := range []int64{-1, 0, 1, 3, 1000000, 1000001} {
				wantUnplanned(t, "no kind", smallPlan(), readyState(phase), impl.CdBad,
					impl.Order{Kind: kind, A: a}, impl.Order{Kind: kind, A: a, B: 1}, impl.Order{Kind: kind, B: a})
			}
		}
	}
}

// wantNothingPlanned checks that nothing comes of any order, even where another
// code would apply.
func wantNothingPlanned(t *testing.T, name string, p impl.Plan, s impl.State) {
	t.Helper()
	for kind := int64(-1); kind <= 15; kind++ {
		for _, a := range []int64{-1, 0, 1, 2, 3, 7, 12, s.Boot, 1000000, 1000001} {
			wantUnplanned(t, name, p, s, impl.CdBad, impl.Order{Kind: kind, A: a}, impl.Order{Kind: kind, A: a, B: 1}, impl.Order{Kind: kind, A: a, B: 6})
		}
	}
}

func TestPromise13StatesThatAreNotRight(t *testing.T) {
	for phase := range int64(9) {
		for name, spoil := range stateSpoils() {
			for _, s := range []impl.State{readyState(phase), inPhase(busyState(), phase)} {
				spoil(&s)
				wantNothingPlanned(t, name, smallPlan(), s)
			}
			s := inPhase(edgeState(), phase)
			spoil(&s)
			wantNothingPlanned(t, name, fullPlan(), s)
		}
	}
	wantNothingPlanned(t, "the zero state", smallPlan(), impl.State{})
	wantNothingPlanned(t, "of another plan", smallPlan(), inPhase(edgeState(), impl.PhBooted))
	wantNothingPlanned(t, "of another plan", fullPlan(), readyState(impl.PhDraining))
}

func TestPromise13PlansThatAreNotRight(t *testing.T) {
	for name, spoil := range wrongPlans() {
		for phase := range int64(9) {
			p := smallPlan()
			spoil(&p)
			wantNothingPlanned(t, name+", a state that did fit", p, readyState(phase))
			wantNothingPlanned(t, name+", a state that would fit", p, inPhase(plainNew(p), phase))
		}
	}
	wantNothingPlanned(t, "the zero plan", impl.Plan{}, impl.State{})
}

// manyOrders are all the kinds, and none, with numbers that are named and such
// that are not.
func manyOrders(boot int64) []impl.Order {
	list := []impl.Order{}
	for kind := int64(-1); kind <= 15; kind++ {
		for _, a := range []int64{-1, 0, 1, 2, 5, 7, 8, 11, 12, boot, 1000000, 1000001} {
			for _, b := range []int64{-1, 0, 1, 5, 6, 1000001} {
				list = append(list, impl.Order{Kind: kind, A: a, B: b})
			}
		}
	}
	return list
}

func TestPromise13MadeStates(t *testing.T) {
	counts := map[[2]int64]int{}
	for seed := range int64(60) {
		p := madePlan(seed)
		for group := range p.Mins {
			p.Mins[group] %= 3
		}
		s := madeState(p, seed+6000)
		s.Probes = min(s.Probes, p.Tries-1)
		s.Good = min(s.Good, s.Probes)
		for phase := range int64(9) {
			s = inPhase(s, phase)
			s.Clock = []int64{s.Clock, 0, 1000000}[(seed+phase)%3]
			for _, o := range manyOrders(s.Boot) {
				_, code := wantAsPlainOrder(t, "a made one", p, s, o)
				counts[[2]int64{o.Kind, code}]++
			}
		}
	}
	for kind := int64(1); kind <= 13; kind++ {
		if counts[[2]int64{kind, impl.CdOk}] < 10 || counts[[2]int64{kind, impl.CdBad}] < 100 {
			t.Errorf("of kind %d only a few are done, or not right", kind)
		}
	}
}

// A machine is taken out of use and comes back, all of it by orders.
func TestPromise13FromTheFirstToTheLast(t *testing.T) {
	p, s := smallPlan(), plainNew(smallPlan())
	clock := int64(0)
	then := func(kind, a, b int64, recs ...impl.Rec) {
		t.Helper()
		if kind == impl.OdTick {
			clock++
			recs = append([]impl.Rec{{Kind: impl.RcClock, A: clock}}, recs...)
		}
		s = wantPlanned(t, "one after the other", p, s, impl.Order{Kind: kind, A: a, B: b}, recs...)
	}
	not := func(code, kind, a, b int64) {
		t.Helper()
		wantUnplanned(t, "one after the other", p, s, code, impl.Order{Kind: kind, A: a, B: b})
	}
	then(impl.OdLock, 2, 0, impl.Rec{Kind: impl.RcLock, A: 2})
	then(impl.OdCordon, 0, 0, phaseIs(1))
	then(impl.OdDrain, 0, 0, phaseIs(2))
	then(impl.OdEvict, 0, 0, podIs(0, 6))
	not(impl.CdBudget, impl.OdEvict, 2, 0)
	then(impl.OdBusy, 3, 1, busyIs(3, 1))
	then(impl.OdExit, 1, 0, podIs(1, 5))
	then(impl.OdShut, 0, 0, impl.Rec{Kind: impl.RcLockBy, A: 9}, bandIs(0), phaseIs(3))
	not(impl.CdPhase, impl.OdCancel, 0, 0)
	then(impl.OdTick, 0, 0)
	then(impl.OdUnlock, 2, 0, unlock(2))
	then(impl.OdTick, 0, 0, bandIs(1))
	then(impl.OdTick, 0, 0, bandIs(4))
	then(impl.OdTick, 0, 0, podIs(2, 2))
	then(impl.OdExit, 2, 0, podIs(2, 4))
	then(impl.OdTick, 0, 0, bandIs(6))
	then(impl.OdTick, 0, 0, phaseIs(4))
	then(impl.OdTick, 0, 0, free(1), free(2), free(4))
	then(impl.OdTick, 0, 0, busyIs(3, 0), give(0), give(2))
	then(impl.OdTick, 0, 0, free(3))
	then(impl.OdTick, 0, 0, free(0))
	then(impl.OdTick, 0, 0, give(1))
	then(impl.OdTick, 0, 0, phaseIs(5))
	not(impl.CdPhase, impl.OdProbe, 1, 0)
	then(impl.OdBoot, 8, 0, bootIs(8), probeIs(0, 0), phaseIs(6))
	not(impl.CdSame, impl.OdBoot, 8, 0)
	then(impl.OdProbe, 1, 0, probeIs(1, 1), phaseIs(7))
	then(impl.OdProbe, 0, 0, probeIs(0, 2))
	then(impl.OdProbe, 1, 0, probeIs(1, 3))
	then(impl.OdProbe, 1, 0, probeIs(2, 4), phaseIs(0))
	then(impl.OdTick, 0, 0)
	want := impl.State{Clock: 13, Boot: 8, Band: 6, LockBy: 9, Pods: []impl.PodAt{{State: 6}, {State: 5}, {State: 4, Since: 4}},
		Mounts: make([]impl.MountAt, 5), Devices: make([]bool, 3)}
	if !equalStates(s, want) {
		t.Errorf("it is %+v at last, not %+v", s, want)
	}
}

// drawnOrder is an order, now and then one that is not right.
func drawnOrder(draw func(int64) int64) impl.Order {
	o := impl.Order{Kind: 1 + draw(20)}
	// Of ticks and probes there must be many for anything to come of them.
	if o.Kind > 13 {
		o.Kind = []int64{impl.OdTick, impl.OdProbe}[o.Kind%2]
	}
	most := mostOf()[o.Kind]
	o.A, o.B = draw(min(most[0], 8)+1), draw(min(most[1], 5)+1)
	if draw(15) == 0 {
		o.A, o.B = draw(9), draw(9)
	}
	return o
}

// Orders as they come: it is right at all times, and what is refused changes
// nothing.
func TestPromise13OneAfterTheOther(t *testing.T) {
	done, codes := map[int64]int{}, map[int64]int{}
	for seed := range int64(300) {
		draw := func(below int64) int64 {
			seed = (seed*1103515245 + 12345) % (1 << 31)
			return seed / 65536 % below
		}
		p := smallPlan()
		p.Mins[0], p.LockMax = draw(3), draw(4)
		for pod := range p.Pods {
			p.Pods[pod].Hook, p.Pods[pod].Grace = draw(9), draw(3)
		}
		s := plainNew(p)
		for step := range 200 {
			// Behind a boot no pod runs ever again, and no clock is behind the last one.
			if step%25 == 0 {
				s = inPhase(plainNew(p), draw(4))
				s.Clock = []int64{0, draw(1000), 1000000 - draw(5)}[draw(3)]
			}
			o := drawnOrder(draw)
			// A cancel or a boot would end nearly all before anything is down.
			if s.Phase < impl.PhReboot && (o.Kind == impl.OdCancel || o.Kind == impl.OdBoot) && draw(3) > 0 {
				continue
			}
			made, code := wantAsPlainOrder(t, "as it comes", p, s, o)
			codes[code]++
			if code == impl.CdOk {
				done[o.Kind]++
			}
			s = made
		}
	}
	for kind := int64(1); kind <= 13; kind++ {
		if done[kind] < 30 {
			t.Errorf("only %d of kind %d are done", done[kind], kind)
		}
	}
	for code := range int64(8) {
		if codes[code] < 30 {
			t.Errorf("only %d answer %d", codes[code], code)
		}
	}
}
