package tests

import (
	"bytes"
	"math"
	"slices"
	"testing"

	"loop.example/g00767/impl"
)

// plainTorn is the document's sentence of what lies in the store.
func plainTorn(a impl.Agent, o impl.Order, k int64) []byte {
	made, code := plainObeyed(a, o)
	if code != impl.CdOk {
		return made.Store
	}
	lists, _ := plainFrames(made.Store)
	frame := int64(len(plainFrame(lists[len(lists)-1])))
	ahead := int64(len(made.Store)) - frame
	if k < 0 {
		k = 0
	}
	if k > frame {
		k = frame
	}
	return made.Store[:ahead+k]
}

func plainRecovered(p impl.Plan, b []byte) (impl.Agent, bool) {
	lists, size := plainFrames(b)
	s, ok := plainReplayed(p, lists)
	if !ok || size > 1200 {
		return impl.Agent{}, false
	}
	return impl.Agent{Plan: p, State: s, Store: b[:size]}, true
}

// wantRecovered checks who comes back; who comes back twice is who came back
// once.
func wantRecovered(t *testing.T, name string, b []byte, want impl.Agent) {
	t.Helper()
	got, ok := impl.Recovered(want.Plan, b)
	if !ok || !equalAgents(got, want) {
		t.Errorf("%s: Recovered of %v is %+v, %v, not %+v", name, b, got, ok, want)
	}
	wantAgentOk(t, name, true, got)
	if twice, ok := impl.Recovered(got.Plan, got.Store); !ok || !equalAgents(twice, got) {
		t.Errorf("%s: who comes back twice is %+v, %v, not %+v", name, twice, ok, got)
	}
}

func wantNobody(t *testing.T, name string, p impl.Plan, these ...[]byte) {
	t.Helper()
	for _, b := range these {
		if got, ok := impl.Recovered(p, b); ok || !equalAgents(got, impl.Agent{}) {
			t.Errorf("%s: Recovered of %v is %+v, %v", name, b, got, ok)
		}
	}
}

func wantTorn(t *testing.T, name string, a impl.Agent, o impl.Order, k int64, want []byte) {
	t.Helper()
	if got := impl.TornIn(a, o, k); !bytes.Equal(got, want) {
		t.Errorf("%s: TornIn of %+v at %d is %v, not %v, of %+v", name, o, k, got, want, a)
	}
}

// frameOf is how many bytes of its store are those of the last frame, where an
// order is done.
func frameOf(a impl.Agent, o impl.Order) int64 {
	recs, _ := plainPlanned(a.Plan, a.State, o)
	return int64(len(plainFrame(recs)))
}

// wantFalls is the promise: wherever the agent falls while it does that, it
// comes back as it was, or as it should have been; with all of the frame it is
// the latter. Where the order is not done yet, who comes back does it then, and
// is as it should have been.
func wantFalls(t *testing.T, name string, a impl.Agent, o impl.Order) {
	t.Helper()
	made, code := impl.Obeyed(a, o)
	frame := int64(0)
	if code == impl.CdOk {
		frame = frameOf(a, o)
	}
	for k := int64(-1); k <= frame+1; k++ {
		torn := impl.TornIn(a, o, k)
		back, ok := impl.Recovered(a.Plan, torn)
		if !ok || !impl.AgentOk(back) || !equalPlans(back.Plan, a.Plan) {
			t.Fatalf("%s: fallen in %+v at %d nobody comes back: %+v, %v, of %+v", name, o, k, back, ok, a)
		}
		want := made.State
		if k < frame {
			want = a.State
		}
		if !equalStates(back.State, want) {
			t.Fatalf("%s: fallen in %+v at %d it comes back as %+v, not %+v", name, o, k, back.State, want)
		}
		wantRecovered(t, name, torn, back)
		again, then := impl.Obeyed(back, o)
		if done := code == impl.CdOk && k >= frame; !done && (then != code || !equalStates(again.State, made.State)) {
			t.Fatalf("%s: fallen in %+v at %d it does it as %+v, %d, not %+v, %d", name, o, k, again.State, then, made.State, code)
		}
	}
	if code == impl.CdOk && !bytes.Equal(impl.TornIn(a, o, frame), made.Store) {
		t.Fatalf("%s: with all of the frame of %+v the store is not as it should be", name, o)
	}
}

// cuts are where a frame of so many bytes may be torn: each of its bytes, and
// what is none of them.
func cuts(frame int64) []int64 {
	list := []int64{math.MinInt64, math.MinInt64 + 1, -1 << 32, -1, frame + 1, frame + 2, 2 * frame, 1200, 1201, 1 << 32, math.MaxInt64 - 1200, math.MaxInt64 - 1, math.MaxInt64}
	for k := range frame + 1 {
		list = append(list, k)
	}
	return list
}

func TestPromise15TornAnywhere(t *testing.T) {
	cordon := impl.Order{Kind: impl.OdCordon}
	new := agentOf(t, smallPlan())
	frame := []byte{4, 0, 8851 % 256, 8851 / 256, 1, 1, 1, 0}
	for _, k := range []int64{math.MinInt64, -2, -1, 0} {
		wantTorn(t, "nothing of it", new, cordon, k, nil)
	}
	for k := range int64(9) {
		wantTorn(t, "the first bytes", new, cordon, k, frame[:k])
	}
	for _, k := range []int64{8, 9, 10, 1200, math.MaxInt64 - 1, math.MaxInt64} {
		wantTorn(t, "all of it", new, cordon, k, frame)
	}
	for _, a := range manyAgents(t) {
		for _, o := range []impl.Order{{Kind: impl.OdTick}, {Kind: impl.OdBoot, A: 5}, {Kind: impl.OdShut}, {Kind: impl.OdExit}} {
			for _, k := range cuts(frameOf(a, o)) {
				wantTorn(t, "wherever it is", a, o, k, plainTorn(a, o, k))
			}
		}
	}
}

func TestPromise15TornWhereNothingIsDone(t *testing.T) {
	for _, c := range refusedOrders() {
		for _, size := range []int{800, 1200} {
			a := agentWith(t, smallPlan(), c.s, size)
			for _, k := range cuts(20) {
				wantTorn(t, c.name, a, c.o, k, a.Store)
			}
			wantTorn(t, c.name+", and it is no order", a, impl.Order{Kind: c.o.Kind, A: c.o.A, B: -1}, 3, a.Store)
		}
	}
	for _, a := range spentAgents(t) {
		for _, k := range cuts(20) {
			wantTorn(t, "the tries are spent", a, impl.Order{Kind: impl.OdProbe}, k, a.Store)
		}
	}
	for _, k := range cuts(20) {
		wantTorn(t, "nothing in store", agentOf(t, smallPlan()), impl.Order{Kind: impl.OdDrain}, k, nil)
	}
}

func TestPromise15TornWhereThereIsNoAgent(t *testing.T) {
	for name, a := range notAgents(t) {
		for _, o := range append(someOrders(), impl.Order{Kind: impl.OdBoot, A: 5}, impl.Order{Kind: impl.OdExit, A: 2}) {
			for _, k := range []int64{math.MinInt64, -1, 0, 1, 5, 1200, math.MaxInt64} {
				wantTorn(t, name, a, o, k, nil)
			}
		}
	}
}

// Where the store begins anew, all but the last frame is that of the snapshot.
func TestPromise15TornWhereTheStoreBeginsAnew(t *testing.T) {
	for _, c := range doneOrders() {
		recs, _ := plainPlanned(fullPlan(), c.s, c.o)
		snap, frame := plainFrame(plainSnap(fullPlan(), c.s)), plainFrame(recs)
		for _, size := range []int{1200 - len(frame), 1201 - len(frame), 1200} {
			a := agentWith(t, fullPlan(), c.s, size)
			ahead := snap
			if size+len(frame) == 1200 {
				ahead = a.Store
			}
			for _, k := range cuts(int64(len(frame))) {
				first := frame[:min(max(k, 0), int64(len(frame)))]
				wantTorn(t, c.name, a, c.o, k, slices.Concat(ahead, first))
			}
			wantFalls(t, c.name, a, c.o)
		}
	}
}

func TestPromise15RecoveredOfNothing(t *testing.T) {
	for _, p := range rightPlans() {
		new := impl.Agent{Plan: p, State: plainNew(p)}
		for _, b := range [][]byte{nil, {}, {1}, {0, 0, 0, 0}, {0, 0, 7, 0}, bytes.Repeat([]byte{255}, 3000), make([]byte, 3000), plainFrame(nil)[1:]} {
			wantRecovered(t, "no frames", b, new)
		}
		wantRecovered(t, "a frame of nothing", plainFrame(nil), impl.Agent{Plan: p, State: plainNew(p), Store: plainFrame(nil)})
	}
}

func TestPromise15RecoveredOfAWholeStore(t *testing.T) {
	for _, a := range manyAgents(t) {
		wantRecovered(t, "whole", a.Store, a)
		for _, tail := range [][]byte{{0}, {9, 0}, {1, 0, 217, 0}, {1, 0, 218, 0, 0}, make([]byte, 50), bytes.Repeat([]byte{255}, 5000), plainFrame(nil)[:4], plainFrame(manyRecs(80))[:300]} {
			wantRecovered(t, "something behind it", slices.Concat(a.Store, tail), a)
		}
		// Behind what is no frame nothing is looked at, though it could not be applied.
		wantRecovered(t, "a frame behind no frame", slices.Concat(a.Store, []byte{0}, plainFrame([]impl.Rec{bandIs(7)})), a)
	}
}

// However much of a store is torn off, the frames that are left make the agent.
func TestPromise15RecoveredOfATornStore(t *testing.T) {
	lists := [][]impl.Rec{{phaseIs(1), clockIs(3)}, nil, {podIs(0, 6), lockIs(4)}, {phaseIs(2)}, {bootIs(1000000), clockIs(1000000)}, nil}
	whole := plainStore(lists...)
	for cut := range len(whole) + 1 {
		count := 0
		for count < len(lists) && len(plainStore(lists[:count+1]...)) <= cut {
			count++
		}
		wantRecovered(t, "torn", whole[:cut], agentOf(t, smallPlan(), lists[:count]...))
	}
}

func TestPromise15RecoveredOfTooLongAStore(t *testing.T) {
	for size := 1150; size <= 1260; size++ {
		lists := idleLists(t, size)
		b := plainStore(lists...)
		if size <= 1200 {
			a := agentOf(t, smallPlan(), lists...)
			wantRecovered(t, "at most 1200 bytes", b, a)
			wantRecovered(t, "at most 1200 bytes of frames", append(b, plainFrame(manyRecs(80))[:300]...), a)
		} else {
			wantNobody(t, "more than 1200 bytes", smallPlan(), b, append(b, 0), append(b, plainFrame(nil)[:4]...))
		}
	}
	b := plainStore(make([][]impl.Rec, 241)...)
	for cut := 1200; cut < 1205; cut++ {
		wantRecovered(t, "the frame that passes it is torn", b[:cut], agentOf(t, smallPlan(), make([][]impl.Rec, 240)...))
	}
	wantNobody(t, "the frame that passes it is whole", smallPlan(), b)
	wantNobody(t, "ten times as many", smallPlan(), plainStore(make([][]impl.Rec, 2400)...))
	bare := impl.Plan{Probes: 1, Tries: 1}
	wantNobody(t, "more than 1200 bytes, and nothing there", bare, b)
}

func TestPromise15RecoveredOfAWrongPlan(t *testing.T) {
	ready := readyAgent(t, 2)
	for name, spoil := range wrongPlans() {
		p := smallPlan()
		spoil(&p)
		wantNobody(t, name, p, nil, []byte{1, 2, 3}, plainFrame(nil), ready.Store, ready.Store[:20], agentIn(t, smallPlan(), busyState()).Store)
	}
	for _, p := range oddPlans() {
		if !impl.PlanOk(p) {
			wantNobody(t, "not right", p, nil, plainFrame(nil), plainFrame([]impl.Rec{clockIs(1)}))
		}
	}
}

// What can't be applied ends all: nobody comes back, not even as it was ahead
// of that.
func TestPromise15RecoveredOfFramesThatCannotBeApplied(t *testing.T) {
	full := agentIn(t, fullPlan(), edgeState())
	wantRecovered(t, "of its own plan", full.Store, full)
	wantNobody(t, "of another plan", smallPlan(), full.Store)
	small := agentIn(t, smallPlan(), busyState())
	wantNobody(t, "of a plan of nothing", impl.Plan{Probes: 1, Tries: 1}, small.Store)
	other := smallPlan()
	other.Tries = 2
	wantNobody(t, "of a plan of fewer tries", other, small.Store)
	other.Tries = 3
	wantRecovered(t, "of a plan of as many", small.Store, impl.Agent{Plan: other, State: busyState(), Store: small.Store})
	first := []impl.Rec{phaseIs(1), clockIs(3)}
	for _, r := range falseRecs() {
		frame := plainFrame([]impl.Rec{clockIs(50), r, clockIs(3)})
		_, ok := plainReplayed(smallPlan(), [][]impl.Rec{first, {clockIs(50), r}})
		switch {
		case ok:
			continue
		case !impl.RecOk(r):
			wantRecovered(t, "no record, so no frame", slices.Concat(plainFrame(first), frame, plainFrame(nil)), agentOf(t, smallPlan(), first))
		default:
			wantNobody(t, "it can't be applied", smallPlan(), frame, slices.Concat(plainFrame(first), frame),
				slices.Concat(plainFrame(first), frame, plainFrame(nil)), slices.Concat(plainFrame(first), frame, frame[:5]))
			wantRecovered(t, "it is torn", slices.Concat(plainFrame(first), frame[:len(frame)-1]), agentOf(t, smallPlan(), first))
		}
	}
}

// Whatever the bytes are, the one comes back of whom the document tells, or
// nobody.
func TestPromise15RecoveredOfMadeBytes(t *testing.T) {
	came, not := 0, 0
	for seed := range int64(300) {
		draw := drawFrom(seed)
		p := madePlan(seed)
		b := []byte{}
		for i := range draw(12) {
			list := madeRecs(seed*100+i, int(draw(5)))
			frame := plainFrame(list)
			if draw(20) == 0 {
				frame[draw(int64(len(frame)))]++
			}
			b = append(b, frame...)
		}
		b = b[:int64(len(b))-min(draw(30), int64(len(b)))]
		want, ok := plainRecovered(p, b)
		if ok {
			came++
			wantRecovered(t, "made bytes", b, want)
		} else {
			not++
			wantNobody(t, "made bytes", p, b)
		}
	}
	if came < 40 || not < 40 {
		t.Errorf("%d come back, and %d do not", came, not)
	}
}

func TestPromise15WhoeverFallsComesBack(t *testing.T) {
	for phase := range int64(9) {
		for _, c := range readyCommands() {
			wantFalls(t, "a command", readyAgent(t, phase), orderOf(c.said))
		}
		for _, o := range []impl.Order{{Kind: impl.OdTick}, {Kind: impl.OdBoot, A: 1}, {Kind: impl.OdProbe, A: 1}, {Kind: impl.OdProbe}, {}} {
			wantFalls(t, "a tick, a boot, a probe", readyAgent(t, phase), o)
		}
	}
	for _, c := range refusedOrders() {
		wantFalls(t, c.name, agentIn(t, smallPlan(), c.s), c.o)
	}
	for _, a := range manyAgents(t) {
		for _, o := range []impl.Order{{Kind: impl.OdTick}, {Kind: impl.OdBoot, A: 5}, {Kind: impl.OdProbe, A: 1}} {
			wantFalls(t, "one of many", a, o)
		}
	}
}

// One falls again and again on its long way: each time it comes back as it was
// or as it should have been, and goes on from there.
func TestPromise15OneThatFallsAgainAndAgain(t *testing.T) {
	was, should, anew := 0, 0, 0
	for seed := range int64(12) {
		draw := drawFrom(seed + 500)
		p := drawnPlan(draw)
		a, _ := impl.NewAgent(p)
		for range 600 {
			o := drawnFor(a, draw)
			made, code := impl.Obeyed(a, o)
			if code != impl.CdOk {
				wantTorn(t, "refused", a, o, draw(30), a.Store)
				continue
			}
			frame := frameOf(a, o)
			k := draw(frame + 3)
			// Most of the time all of it is written, or it would never end.
			if draw(3) > 0 {
				k = frame
			}
			if len(made.Store) <= len(a.Store) {
				anew++
				wantFalls(t, "it begins anew", a, o)
			}
			back, ok := impl.Recovered(p, impl.TornIn(a, o, k))
			want := made
			if k < frame {
				was++
				want = impl.Agent{Plan: p, State: a.State, Store: made.Store[:int64(len(made.Store))-frame]}
			} else {
				should++
			}
			if !ok || !equalAgents(back, want) {
				t.Fatalf("fallen in %+v at %d it comes back as %+v, %v, not %+v", o, k, back, ok, want)
			}
			a = back
		}
	}
	if was < 300 || should < 300 || anew < 20 {
		t.Errorf("%d come back as they were, %d as they should have been, %d begin anew", was, should, anew)
	}
}
