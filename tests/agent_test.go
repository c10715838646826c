package tests

import (
	"bytes"
	"fmt"
	"math"
	"slices"
	"testing"

	"loop.example/g00767/impl"
)

func equalPlans(a, b impl.Plan) bool {
	return slices.Equal(a.Pods, b.Pods) && slices.Equal(a.Mins, b.Mins) &&
		slices.Equal(a.Mounts, b.Mounts) && slices.Equal(a.Devices, b.Devices) &&
		a.LockMax == b.LockMax && a.Probes == b.Probes && a.Tries == b.Tries
}

func equalAgents(a, b impl.Agent) bool {
	return equalPlans(a.Plan, b.Plan) && equalStates(a.State, b.State) && bytes.Equal(a.Store, b.Store)
}

// plainReplayed is what the records of a store make of a new state, one by one;
// it is false where one of them is.
func plainReplayed(p impl.Plan, lists [][]impl.Rec) (impl.State, bool) {
	s := plainNew(p)
	if !impl.StateOk(p, s) {
		return impl.State{}, false
	}
	for _, r := range slices.Concat(lists...) {
		next, ok := plainApplied(p, s, r)
		if !ok {
			return impl.State{}, false
		}
		s = next
	}
	return s, true
}

// plainAgent is the document's sentence of what an agent is.
func plainAgent(a impl.Agent) bool {
	lists, size := plainFrames(a.Store)
	s, ok := plainReplayed(a.Plan, lists)
	return ok && len(a.Store) <= 1200 && size == int64(len(a.Store)) && equalStates(s, a.State)
}

// plainObeyed is the document's chapter, sentence by sentence. Records that can't
// be so, as come of a probe where the tries are spent, can't be written.
func plainObeyed(a impl.Agent, o impl.Order) (impl.Agent, int64) {
	if !plainAgent(a) {
		return impl.Agent{}, 1
	}
	list, code := plainPlanned(a.Plan, a.State, o)
	if code != 0 {
		return a, code
	}
	s := a.State
	for _, r := range list {
		next, ok := plainApplied(a.Plan, s, r)
		if !ok {
			return a, 8
		}
		s = next
	}
	store := slices.Concat(a.Store, plainFrame(list))
	if len(store) > 1200 {
		store = plainStore(plainSnap(a.Plan, a.State), list)
	}
	if len(store) > 1200 {
		return a, 8
	}
	return impl.Agent{Plan: a.Plan, State: s, Store: store}, 0
}

// agentOf is an agent whose store has a frame of each of these lists.
func agentOf(t *testing.T, p impl.Plan, lists ...[]impl.Rec) impl.Agent {
	t.Helper()
	s, ok := plainReplayed(p, lists)
	if !ok {
		t.Fatalf("%v are not true of a new state", lists)
	}
	return impl.Agent{Plan: p, State: s, Store: plainStore(lists...)}
}

// agentIn is an agent in that state, which its store tells in one frame.
func agentIn(t *testing.T, p impl.Plan, s impl.State) impl.Agent {
	t.Helper()
	a := agentOf(t, p, plainSnap(p, s))
	if !equalStates(a.State, s) {
		t.Fatalf("the snapshot of %+v makes %+v", s, a.State)
	}
	return a
}

// idleLists are lists of no record, and of one that changes nothing of a new
// state, of which the frames are together of so many bytes (28 or more).
func idleLists(t *testing.T, size int) [][]impl.Rec {
	t.Helper()
	lists := [][]impl.Rec{}
	for size%5 != 0 {
		lists = append(lists, []impl.Rec{clockIs(0)})
		size -= 8
	}
	if size < 0 {
		t.Fatal("no frames are of so few bytes")
	}
	return append(lists, make([][]impl.Rec, size/5)...)
}

// agentWith is an agent in that state, whose store is of so many bytes.
func agentWith(t *testing.T, p impl.Plan, s impl.State, size int) impl.Agent {
	t.Helper()
	snap := plainSnap(p, s)
	a := agentOf(t, p, append(idleLists(t, size-len(plainFrame(snap))), snap)...)
	if len(a.Store) != size || !equalStates(a.State, s) {
		t.Fatalf("a store of %d bytes makes %+v, not %+v", len(a.Store), a.State, s)
	}
	return a
}

func wantAgentOk(t *testing.T, name string, right bool, these ...impl.Agent) {
	t.Helper()
	for _, a := range these {
		if impl.AgentOk(a) != right {
			t.Errorf("%s: AgentOk is not %v of %+v", name, right, a)
		}
	}
}

// ownAgent is a with lists of its own.
func ownAgent(a impl.Agent) impl.Agent {
	return impl.Agent{Plan: ownPlan(a.Plan), State: ownState(a.State), Store: slices.Clone(a.Store)}
}

func ownPlan(p impl.Plan) impl.Plan {
	p.Pods, p.Mins = slices.Clone(p.Pods), slices.Clone(p.Mins)
	p.Mounts, p.Devices = slices.Clone(p.Mounts), slices.Clone(p.Devices)
	return p
}

// readyAgent is one of smallPlan in the state of readyState, told in frames of
// which one has no record.
func readyAgent(t *testing.T, phase int64) impl.Agent {
	t.Helper()
	return agentOf(t, smallPlan(), []impl.Rec{clockIs(17), podIs(1, 1)}, nil, []impl.Rec{clockIs(20), lockIs(1)}, readyPhase(phase))
}

// readyPhase is nothing where the phase is PhIdle, which would end the locks.
func readyPhase(phase int64) []impl.Rec {
	if phase == impl.PhIdle {
		return nil
	}
	return []impl.Rec{phaseIs(phase)}
}

// manyAgents are of several plans, and of several beginnings of a store.
func manyAgents(t *testing.T) []impl.Agent {
	t.Helper()
	list := []impl.Agent{agentOf(t, smallPlan()), agentOf(t, fullPlan(), nil), agentOf(t, impl.Plan{Probes: 1, Tries: 1}, []impl.Rec{clockIs(5)})}
	for phase := range int64(9) {
		list = append(list, readyAgent(t, phase), agentIn(t, smallPlan(), inPhase(busyState(), phase)), agentIn(t, fullPlan(), inPhase(edgeState(), phase)))
	}
	for seed := range int64(20) {
		p := madePlan(seed)
		list = append(list, agentIn(t, p, madeState(p, seed+9000)), agentWith(t, p, madeState(p, seed+9100), 1190+int(seed)%11))
	}
	return list
}

func TestPromise15AgentsThatAre(t *testing.T) {
	for _, p := range rightPlans() {
		new, _ := impl.NewAgent(p)
		wantAgentOk(t, "a new one", true, new, impl.Agent{Plan: p, State: plainNew(p)}, impl.Agent{Plan: p, State: plainNew(p), Store: []byte{}})
	}
	for _, a := range manyAgents(t) {
		wantAgentOk(t, "what its store makes", plainAgent(a), a)
		wantAgentOk(t, "what its store makes", true, a, ownAgent(a), roomyAgent(a))
	}
	empty := impl.State{Pods: []impl.PodAt{}, Mounts: []impl.MountAt{}, Devices: []bool{}, Locks: []int64{}}
	least := impl.Plan{Probes: 1, Tries: 1}
	wantAgentOk(t, "of nothing", true, impl.Agent{Plan: least}, impl.Agent{Plan: least, State: empty, Store: []byte{}})
}

// A frame without records changes nothing, wherever it stands.
func TestPromise15AgentsWithAFrameOfNoRecords(t *testing.T) {
	lists := [][]impl.Rec{{phaseIs(1), clockIs(3)}, {podIs(0, 6)}, {lockIs(4), lockIs(2), bootIs(9)}}
	want := agentOf(t, smallPlan(), lists...).State
	for place := range len(lists) + 1 {
		for count := range 4 {
			a := agentOf(t, smallPlan(), slices.Insert(slices.Clone(lists), place, make([][]impl.Rec, count)...)...)
			wantAgentOk(t, "frames of no records", true, a)
			if len(a.Store) != len(plainStore(lists...))+5*count || !equalStates(a.State, want) {
				t.Errorf("%d frames of no records at %d: %+v", count, place, a)
			}
		}
	}
	for count := range 241 {
		a := agentOf(t, smallPlan(), make([][]impl.Rec, count)...)
		wantAgentOk(t, "no records at all", true, a)
		a.State.Clock = 1
		wantAgentOk(t, "no records at all, and a clock", false, a)
	}
}

func TestPromise15AgentsOfWrongPlans(t *testing.T) {
	wantAgentOk(t, "the zero agent", false, impl.Agent{})
	for name, spoil := range wrongPlans() {
		for _, a := range []impl.Agent{agentOf(t, smallPlan()), readyAgent(t, 2), agentIn(t, smallPlan(), busyState())} {
			a = ownAgent(a)
			spoil(&a.Plan)
			wantAgentOk(t, name, false, a, impl.Agent{Plan: a.Plan}, impl.Agent{Plan: a.Plan, State: plainNew(a.Plan)},
				impl.Agent{Plan: a.Plan, State: plainNew(a.Plan), Store: plainStore(nil, nil)})
		}
	}
}

func TestPromise15AgentsInWrongStates(t *testing.T) {
	for _, a := range manyAgents(t) {
		for name, spoil := range stateSpoils() {
			wrong := ownAgent(a)
			spoil(&wrong.State)
			wantAgentOk(t, name, false, wrong)
		}
		wantAgentOk(t, "in no state", len(a.State.Pods) == 0 && equalStates(a.State, impl.State{}), impl.Agent{Plan: a.Plan, Store: a.Store})
	}
	// A store makes such a state, were it not wrong.
	for name, list := range map[string][]impl.Rec{
		"band 7":          {bandIs(7)},
		"phase 9":         {phaseIs(9)},
		"too many probes": {probeIs(0, 6)},
		"who is no one":   {lockIs(8)},
	} {
		s := plainNew(smallPlan())
		s, _ = plainApplied(smallPlan(), s, list[0])
		wantAgentOk(t, name, false, impl.Agent{Plan: smallPlan(), State: s, Store: plainStore(list)})
	}
}

// otherStates change one field of busyState each, so that it is another right
// state.
func otherStates() map[string]func(s *impl.State) {
	return map[string]func(s *impl.State){
		"Phase":            func(s *impl.State) { s.Phase = 4 },
		"Phase and Cordon": func(s *impl.State) { s.Phase, s.Cordon = 0, false },
		"Clock":            func(s *impl.State) { s.Clock++ },
		"Clock 0":          func(s *impl.State) { s.Clock = 0 },
		"Boot":             func(s *impl.State) { s.Boot-- },
		"Band":             func(s *impl.State) { s.Band = 6 },
		"LockBy":           func(s *impl.State) { s.LockBy = 1000000 },
		"Good":             func(s *impl.State) { s.Good = 3 },
		"Probes":           func(s *impl.State) { s.Probes = 2 },
		"Good and Probes":  func(s *impl.State) { s.Good, s.Probes = 0, 0 },
		"a pod's State":    func(s *impl.State) { s.Pods[0].State = 3 },
		"a pod's Since":    func(s *impl.State) { s.Pods[1].Since = 13 },
		"the last pod":     func(s *impl.State) { s.Pods[2].Since = 1 },
		"a mount":          func(s *impl.State) { s.Mounts[0] = impl.MountAt{} },
		"the last mount":   func(s *impl.State) { s.Mounts[4].Held = true },
		"a mount's Busy":   func(s *impl.State) { s.Mounts[2].Busy = 1 },
		"a device":         func(s *impl.State) { s.Devices[0] = true },
		"the last device":  func(s *impl.State) { s.Devices[2] = false },
		"a lock fewer":     func(s *impl.State) { s.Locks = s.Locks[:2] },
		"a lock more":      func(s *impl.State) { s.Locks = append(s.Locks, 7) },
		"another lock":     func(s *impl.State) { s.Locks[1] = 5 },
		"no locks":         func(s *impl.State) { s.Locks = nil },
	}
}

// A state may be right, and yet be none that the store makes.
func TestPromise15AgentsInStatesThatTheStoreDoesNotMake(t *testing.T) {
	for name, do := range otherStates() {
		a := agentIn(t, smallPlan(), busyState())
		do(&a.State)
		wantState(t, name, smallPlan(), a.State, true)
		wantAgentOk(t, name, false, a)
		wantAgentOk(t, name+", and a store that makes it", true, agentIn(t, smallPlan(), a.State))
		a.State = busyState()
		wantAgentOk(t, "as it was", true, a)
		do(&a.State)
		wantAgentOk(t, name+", and nothing in store", false, impl.Agent{Plan: smallPlan(), State: a.State})
	}
	// As a new one, though much is told in the store.
	wantAgentOk(t, "a new state", false, impl.Agent{Plan: smallPlan(), State: plainNew(smallPlan()), Store: agentIn(t, smallPlan(), busyState()).Store})
	// Of a state that a store makes on its way, but not at its end.
	lists := [][]impl.Rec{{phaseIs(1)}, {phaseIs(2), clockIs(4)}, {bootIs(4)}}
	for count := range lists {
		wantAgentOk(t, "on the way", false, impl.Agent{Plan: smallPlan(), State: agentOf(t, smallPlan(), lists[:count]...).State, Store: plainStore(lists...)})
	}
	wantAgentOk(t, "at the end", true, agentOf(t, smallPlan(), lists...))
}

func TestPromise15AgentsWithAFullStore(t *testing.T) {
	for size := 1150; size <= 1260; size++ {
		a := agentOf(t, smallPlan(), idleLists(t, size)...)
		if len(a.Store) != size {
			t.Fatalf("the store is of %d bytes", len(a.Store))
		}
		wantAgentOk(t, "at most 1200 bytes", size <= impl.MaxStore, a)
		for _, s := range []impl.State{busyState(), readyState(2)} {
			wantAgentOk(t, "at most 1200 bytes", size <= impl.MaxStore, agentWith(t, smallPlan(), s, size))
		}
		b := storeOf(t, size)
		lists, _ := plainFrames(b)
		s, _ := plainReplayed(smallPlan(), lists)
		wantAgentOk(t, "at most 1200 bytes", size <= impl.MaxStore, impl.Agent{Plan: smallPlan(), State: s, Store: b})
	}
	wantAgentOk(t, "ten times as many", false, agentOf(t, smallPlan(), make([][]impl.Rec, 2400)...))
	// What passes the bound is no frame: it is not right either.
	wantAgentOk(t, "the 1201st byte is none of a frame", false, impl.Agent{
		Plan: smallPlan(), State: plainNew(smallPlan()), Store: append(plainStore(make([][]impl.Rec, 240)...), 1),
	})
}

// All of a store are frames: nothing lies behind the last one, and none is torn.
func TestPromise15AgentsWithATornStore(t *testing.T) {
	for _, a := range manyAgents(t)[:25] {
		for _, list := range [][]impl.Rec{nil, {clockIs(70)}, manyRecs(4)} {
			frame := plainFrame(list)
			for cut := 1; cut < len(frame); cut++ {
				torn := ownAgent(a)
				torn.Store = append(torn.Store, frame[:cut]...)
				wantAgentOk(t, "a torn frame behind", false, torn)
			}
		}
		for _, more := range [][]byte{{0}, {1}, {255}, {0, 0, 0, 0}, {0, 0, 7, 0}, make([]byte, 100), plainFrame(nil)[1:], plainFrame([]impl.Rec{{Kind: 13}})} {
			longer := ownAgent(a)
			longer.Store = append(longer.Store, more...)
			wantAgentOk(t, "bytes behind", false, longer)
			longer.Store = append(slices.Clone(more), a.Store...)
			wantAgentOk(t, "bytes ahead", false, longer)
		}
	}
	// It would be an agent, were the torn frame not there.
	lists := [][]impl.Rec{{phaseIs(1)}, {lockIs(2)}, {phaseIs(2), clockIs(4)}}
	whole := plainStore(lists...)
	for cut := range len(whole) + 1 {
		for count := range len(lists) + 1 {
			a := agentOf(t, smallPlan(), lists[:count]...)
			right := cut == len(a.Store)
			a.Store = whole[:cut]
			wantAgentOk(t, "as far as it is whole", right, a)
		}
	}
}

// Each byte of the store is one of a frame, so none of them may be another one,
// but for what tells of the same state.
func TestPromise15AgentsWithAnotherStore(t *testing.T) {
	for _, a := range []impl.Agent{readyAgent(t, 2), agentIn(t, smallPlan(), busyState())} {
		for i := range a.Store {
			for _, n := range []byte{0, 1, a.Store[i] + 1, a.Store[i] ^ 128, 255} {
				other := ownAgent(a)
				other.Store[i] = n
				wantAgentOk(t, "another byte", plainAgent(other), other)
			}
		}
	}
}

// wantNotApplied checks of an agent and a list that is not true of its state
// that a store with that list's frame behind is none, whatever is the state.
func wantNotApplied(t *testing.T, name string, a impl.Agent, list []impl.Rec) {
	t.Helper()
	made, _ := impl.AppliedAll(a.Plan, a.State, list)
	for _, s := range []impl.State{a.State, made, plainNew(a.Plan), {}} {
		for _, behind := range [][]impl.Rec{nil, {clockIs(1)}} {
			store := slices.Concat(a.Store, plainFrame(list))
			wantAgentOk(t, name, false, impl.Agent{Plan: a.Plan, State: s, Store: store})
			store = append(store, plainFrame(behind)...)
			s.Clock = 1
			wantAgentOk(t, name+", not the last one", false, impl.Agent{Plan: a.Plan, State: s, Store: store})
		}
	}
}

func TestPromise15AgentsWithAFrameThatCannotBeApplied(t *testing.T) {
	for _, r := range falseRecs() {
		for _, a := range []impl.Agent{agentOf(t, smallPlan()), agentIn(t, smallPlan(), busyState())} {
			if _, ok := plainApplied(a.Plan, a.State, r); ok {
				continue
			}
			wantNotApplied(t, "it alone", a, []impl.Rec{r})
			wantNotApplied(t, "it among others", a, []impl.Rec{clockIs(50), r, clockIs(1)})
			wantNotApplied(t, "it at last", a, []impl.Rec{clockIs(50), r})
		}
	}
	for name, list := range map[string][]impl.Rec{
		"a pod that is none":              {podIs(3, 0)},
		"a mount that is none":            {free(5)},
		"a device that is none":           {give(3)},
		"free, and busy then":             {free(0), busyIs(0, 1)},
		"too many probes, and fewer then": {probeIs(0, 6), probeIs(0, 0)},
		"a band that is none, and one":    {bandIs(7), bandIs(0)},
	} {
		wantNotApplied(t, name, agentOf(t, smallPlan()), list)
	}
	// What is false of one plan is true of another.
	list := []impl.Rec{podIs(11, 5), free(11), give(11), probeIs(7, 30)}
	wantAgentOk(t, "true of the full one", true, agentOf(t, fullPlan(), list))
	wantNotApplied(t, "not true of the small one", agentOf(t, smallPlan()), list)
}

func TestPromise15NewAgents(t *testing.T) {
	bare := smallPlan()
	bare.Pods, bare.Mounts, bare.Devices = nil, nil, nil
	for _, p := range append(rightPlans(), bare) {
		a, ok := impl.NewAgent(p)
		if !ok || !equalPlans(a.Plan, p) || !equalStates(a.State, plainNew(p)) || len(a.Store) != 0 {
			t.Errorf("NewAgent of %+v is %+v, %v", p, a, ok)
		}
		wantAgentOk(t, "a new one", true, a)
		if back, ok := impl.Recovered(p, a.Store); !ok || !equalAgents(back, a) {
			t.Errorf("a new agent %+v comes back as %+v, %v", a, back, ok)
		}
	}
}

func TestPromise15NoNewAgentsOfWrongPlans(t *testing.T) {
	for name, spoil := range wrongPlans() {
		p := smallPlan()
		spoil(&p)
		if a, ok := impl.NewAgent(p); ok || !equalAgents(a, impl.Agent{}) {
			t.Errorf("%s: NewAgent is %+v, %v", name, a, ok)
		}
	}
	for _, p := range oddPlans() {
		a, ok := impl.NewAgent(p)
		want := impl.Agent{}
		if impl.PlanOk(p) {
			want = impl.Agent{Plan: p, State: plainNew(p)}
		}
		if ok != impl.PlanOk(p) || !equalAgents(a, want) {
			t.Errorf("NewAgent of %+v is %+v, %v", p, a, ok)
		}
	}
}

// wantObeyed checks that an order is done: there is one more frame behind the
// store, or behind that of a snapshot alone where anew is so, and the state is
// what its records make; it answers the agent.
func wantObeyed(t *testing.T, name string, a impl.Agent, o impl.Order, anew bool, recs ...impl.Rec) impl.Agent {
	t.Helper()
	store := a.Store
	if anew {
		store = plainFrame(plainSnap(a.Plan, a.State))
	}
	s, ok := impl.AppliedAll(a.Plan, a.State, recs)
	want := impl.Agent{Plan: a.Plan, State: s, Store: slices.Concat(store, plainFrame(recs))}
	got, code := impl.Obeyed(a, o)
	if !ok || code != impl.CdOk || !equalAgents(got, want) {
		t.Errorf("%s: Obeyed of %+v is %+v, %d, not %+v, of %+v", name, o, got, code, want, a)
	}
	// There is no order that is done without a record.
	if len(recs) == 0 {
		t.Errorf("%s: nothing comes of %+v", name, o)
	}
	wantAgentOk(t, name, true, got)
	return got
}

// wantDisobeyed checks that the agent is as it is, with this code.
func wantDisobeyed(t *testing.T, name string, a impl.Agent, code int64, these ...impl.Order) {
	t.Helper()
	for _, o := range these {
		if got, k := impl.Obeyed(a, o); k != code || !equalAgents(got, a) {
			t.Errorf("%s: Obeyed of %+v is %+v, %d, not as it is and %d, of %+v", name, o, got, k, code, a)
		}
	}
}

// wantAsPlainObeyed answers the agent that is left, and the code.
func wantAsPlainObeyed(t *testing.T, name string, a impl.Agent, o impl.Order) (impl.Agent, int64) {
	t.Helper()
	want, code := plainObeyed(a, o)
	got, k := impl.Obeyed(a, o)
	if k != code || !equalAgents(got, want) {
		t.Fatalf("%s: Obeyed of %+v is %+v, %d, not %+v, %d, of %+v", name, o, got, k, want, code, a)
	}
	wantAgentOk(t, name, true, got)
	return got, k
}

// notAgents are wrong in one way each, and would obey otherwise.
func notAgents(t *testing.T) map[string]impl.Agent {
	t.Helper()
	list := map[string]impl.Agent{"the zero agent": {}, "no state": {Plan: smallPlan()}, "no plan": {State: plainNew(smallPlan())}}
	for phase := range int64(9) {
		a := readyAgent(t, phase)
		add := func(name string, do func(a *impl.Agent)) {
			wrong := ownAgent(a)
			do(&wrong)
			list[fmt.Sprint(name, " in phase ", phase)] = wrong
		}
		add("no tries", func(a *impl.Agent) { a.Plan.Tries = 0 })
		add("another clock", func(a *impl.Agent) { a.State.Clock-- })
		add("a wrong clock", func(a *impl.Agent) { a.State.Clock = 1000001 })
		add("no lock", func(a *impl.Agent) { a.State.Locks = nil })
		add("nothing in store", func(a *impl.Agent) { a.Store = nil })
		add("a torn store", func(a *impl.Agent) { a.Store = append(a.Store, 1) })
		add("a store that is cut", func(a *impl.Agent) { a.Store = a.Store[:len(a.Store)-1] })
		add("too long a store", func(a *impl.Agent) { a.Store = append(a.Store, plainStore(make([][]impl.Rec, 240)...)...) })
		add("a frame that can't be applied", func(a *impl.Agent) { a.Store = append(a.Store, plainFrame([]impl.Rec{bandIs(7)})...) })
	}
	return list
}

func TestPromise15WhoIsNoAgentObeysNothing(t *testing.T) {
	for name, a := range notAgents(t) {
		wantAgentOk(t, name, false, a)
		for _, o := range append(someOrders(), impl.Order{Kind: impl.OdBoot, A: 5}, impl.Order{Kind: impl.OdUnlock, A: 1}, impl.Order{Kind: impl.OdExit, A: 2}) {
			if got, code := impl.Obeyed(a, o); code != impl.CdBad || !equalAgents(got, impl.Agent{}) {
				t.Errorf("%s: Obeyed of %+v is %+v, %d", name, o, got, code)
			}
		}
	}
}

func TestPromise15WhatIsRefused(t *testing.T) {
	codes := map[int64]int{}
	for _, c := range refusedOrders() {
		wantDisobeyed(t, c.name, agentIn(t, smallPlan(), c.s), c.code, c.o)
		wantDisobeyed(t, c.name+", and the store is full", agentWith(t, smallPlan(), c.s, 1200), c.code, c.o)
		wantDisobeyed(t, c.name+", and it is no order", agentIn(t, smallPlan(), c.s), impl.CdBad, wrongOnes(c.o)...)
		codes[c.code]++
	}
	for code := int64(impl.CdBad); code <= impl.CdSpent; code++ {
		if codes[code] == 0 {
			t.Errorf("nothing is refused with %d", code)
		}
	}
	for phase := range int64(9) {
		for _, c := range readyCommands() {
			if !slices.Contains(c.phases, phase) {
				wantDisobeyed(t, "not now", readyAgent(t, phase), impl.CdPhase, orderOf(c.said))
			}
		}
		wantDisobeyed(t, "no order", readyAgent(t, phase), impl.CdBad, impl.Order{}, impl.Order{Kind: 14}, impl.Order{Kind: -1},
			impl.Order{Kind: impl.OdTick, A: 1}, impl.Order{Kind: impl.OdUnlock, A: 1, B: 1}, impl.Order{Kind: impl.OdBoot, A: 1000001}, impl.Order{Kind: math.MinInt64, A: math.MinInt64})
	}
}

func TestPromise15WhatIsDone(t *testing.T) {
	for phase := range int64(9) {
		for _, c := range readyCommands() {
			if slices.Contains(c.phases, phase) {
				wantObeyed(t, "a command", readyAgent(t, phase), orderOf(c.said), false, c.recs...)
				wantObeyed(t, "a command", agentIn(t, smallPlan(), readyState(phase)), orderOf(c.said), false, c.recs...)
			}
		}
		for _, o := range []impl.Order{{Kind: impl.OdTick}, {Kind: impl.OdBoot, A: 1}, {Kind: impl.OdBoot, A: 1000000}} {
			recs, _ := plainPlanned(smallPlan(), readyState(phase), o)
			wantObeyed(t, "a tick, a boot", readyAgent(t, phase), o, false, recs...)
		}
	}
	booted := agentIn(t, smallPlan(), probed(smallPlan(), impl.PhBooted, 0, 0))
	checking := agentIn(t, smallPlan(), probed(smallPlan(), impl.PhChecking, 1, 4))
	wantObeyed(t, "a good one", booted, impl.Order{Kind: impl.OdProbe, A: 1}, false, probeIs(1, 1), phaseIs(7))
	wantObeyed(t, "an ill one", booted, impl.Order{Kind: impl.OdProbe}, false, probeIs(0, 1), phaseIs(7))
	wantObeyed(t, "the last one is good", checking, impl.Order{Kind: impl.OdProbe, A: 1}, false, probeIs(2, 5), phaseIs(0))
	wantObeyed(t, "the last one is ill", checking, impl.Order{Kind: impl.OdProbe}, false, probeIs(0, 5), phaseIs(8))
	full := agentIn(t, fullPlan(), inPhase(edgeState(), impl.PhReboot))
	recs, _ := plainPlanned(full.Plan, full.State, impl.Order{Kind: impl.OdBoot, A: 3})
	wantObeyed(t, "a boot that gives up all", full, impl.Order{Kind: impl.OdBoot, A: 3}, false, recs...)
}

// An order without records would leave a frame of none; there is no such one.
func TestPromise15WhatIsDoneHasRecords(t *testing.T) {
	for seed := range int64(30) {
		p := madePlan(seed)
		for phase := range int64(9) {
			s := inPhase(madeState(p, seed+9600), phase)
			for _, o := range manyOrders(s.Boot) {
				if list, code := impl.Planned(p, s, o); (len(list) > 0) != (code == impl.CdOk) {
					t.Errorf("Planned of %+v is %v, %d, of %+v", o, list, code, s)
				}
			}
		}
	}
}

// doneOrders are orders whose frames are of several sizes, each beside a state
// in which it is done.
func doneOrders() []refusedOrder {
	releasing := ended(fullPlan())
	return []refusedOrder{
		{"a cordon", plainNew(fullPlan()), impl.CdOk, impl.Order{Kind: impl.OdCordon}},
		{"a shut", inPhase(edgeState(), impl.PhCordoned), impl.CdOk, impl.Order{Kind: impl.OdShut}},
		{"a tick at 1", plainNew(fullPlan()), impl.CdOk, impl.Order{Kind: impl.OdTick}},
		{"a tick that releases", releasing, impl.CdOk, impl.Order{Kind: impl.OdTick}},
		{"a tick that shuts", shutting(fullPlan(), 5), impl.CdOk, impl.Order{Kind: impl.OdTick}},
		{"a boot of a new one", plainNew(fullPlan()), impl.CdOk, impl.Order{Kind: impl.OdBoot, A: 1000000}},
		{"a boot of all", inPhase(edgeState(), impl.PhIdle), impl.CdOk, impl.Order{Kind: impl.OdBoot, A: 999999}},
		{"a probe", probed(fullPlan(), impl.PhBooted, 0, 0), impl.CdOk, impl.Order{Kind: impl.OdProbe, A: 1}},
	}
}

// The frame fits exactly, or is one byte too long: the store begins anew then,
// by the frame of a snapshot of the state as it was.
func TestPromise15AStoreThatIsFull(t *testing.T) {
	for _, c := range doneOrders() {
		recs, code := plainPlanned(fullPlan(), c.s, c.o)
		if code != impl.CdOk {
			t.Fatalf("%s is refused with %d", c.name, code)
		}
		most := 1200 - len(plainFrame(recs))
		for size := most - 20; size <= 1200; size++ {
			a := agentWith(t, fullPlan(), c.s, size)
			made := wantObeyed(t, c.name, a, c.o, size > most, recs...)
			switch {
			case size == most && len(made.Store) != 1200:
				t.Errorf("%s: it does not fit exactly: %d bytes", c.name, len(made.Store))
			case size > most && len(made.Store) != len(plainStore(plainSnap(fullPlan(), c.s), recs)):
				t.Errorf("%s: it does not begin anew: %d bytes", c.name, len(made.Store))
			}
		}
	}
}

// A store of frames without records, to its last byte.
func TestPromise15AStoreThatIsFullOfNothing(t *testing.T) {
	cordon := impl.Order{Kind: impl.OdCordon}
	a := agentOf(t, smallPlan(), make([][]impl.Rec, 240)...)
	a = wantObeyed(t, "1200 bytes", a, cordon, true, phaseIs(1))
	wantObeyed(t, "behind that", a, impl.Order{Kind: impl.OdDrain}, false, phaseIs(2))
	wantObeyed(t, "1195 bytes", agentOf(t, smallPlan(), make([][]impl.Rec, 239)...), cordon, true, phaseIs(1))
	wantObeyed(t, "1190 bytes", agentOf(t, smallPlan(), make([][]impl.Rec, 238)...), cordon, false, phaseIs(1))
}

// The longest snapshot there is and the longest frame that comes of an order
// have room in a store, so that none is ever too full for both.
func TestPromise15AStoreThatBeganAnewHasRoom(t *testing.T) {
	s := edgeState()
	for i := range s.Mounts {
		s.Pods[i] = impl.PodAt{State: 3, Since: 1000000 - int64(i)}
		s.Mounts[i] = impl.MountAt{Held: true, Busy: 5}
	}
	// A record is of 3 bytes, or of 5 where its number takes 3. Of each kind there
	// are as many as can be, behind the head and the count.
	snap := 4 + 1 + 3 + 5 + 12*(5+3) + 5 + 12*3 + 12*3 + 8*3 + 3 + 5 + 3
	longest := 0
	for phase := range int64(9) {
		for _, o := range []impl.Order{{Kind: impl.OdBoot, A: 999999}, {Kind: impl.OdTick}, {Kind: impl.OdShut}, {Kind: impl.OdProbe}} {
			s := inPhase(s, phase)
			recs, _ := plainPlanned(fullPlan(), s, o)
			longest = max(longest, snap+len(plainFrame(recs)))
			if got := len(plainFrame(plainSnap(fullPlan(), s))); got > snap {
				t.Errorf("a snapshot is of %d bytes, more than %d", got, snap)
			}
		}
	}
	if longest > 1200 {
		t.Errorf("%d bytes have no room", longest)
	}
	for seed := range int64(100) {
		p := madePlan(seed)
		a := agentWith(t, p, madeState(p, seed+9500), 1200)
		for _, o := range []impl.Order{{Kind: impl.OdTick}, {Kind: impl.OdBoot, A: 999999}, {Kind: impl.OdExit}} {
			if made, code := wantAsPlainObeyed(t, "1200 bytes", a, o); code == impl.CdFull || code == impl.CdOk && len(made.Store) > longest {
				t.Errorf("%+v: %d, and %d bytes", o, code, len(made.Store))
			}
		}
	}
}

// spentAgents have spent all their tries and are still probed, to which no order
// leads: their stores were written otherwise.
func spentAgents(t *testing.T) []impl.Agent {
	t.Helper()
	list := []impl.Agent{}
	for _, phase := range []int64{impl.PhBooted, impl.PhChecking} {
		list = append(list,
			agentOf(t, smallPlan(), []impl.Rec{phaseIs(phase), probeIs(0, 5)}),
			agentOf(t, smallPlan(), []impl.Rec{phaseIs(phase)}, nil, []impl.Rec{probeIs(5, 5)}),
			agentWith(t, smallPlan(), probed(smallPlan(), phase, 1, 5), 1200),
			agentIn(t, fullPlan(), inPhase(edgeState(), phase)))
	}
	return list
}

// A probe past the last try could not be so, and nobody would come back from a
// store in which it stood: it is not written, and nothing changes.
func TestPromise15WhatCannotBeSoIsNotWritten(t *testing.T) {
	for _, a := range spentAgents(t) {
		wantAgentOk(t, "the tries are spent", true, a)
		for good := range int64(2) {
			wantDisobeyed(t, "the tries are spent", a, impl.CdFull, impl.Order{Kind: impl.OdProbe, A: good})
			wantFalls(t, "the tries are spent", a, impl.Order{Kind: impl.OdProbe, A: good})
		}
		for _, o := range []impl.Order{{Kind: impl.OdTick}, {Kind: impl.OdBoot, A: 5}, {Kind: impl.OdCordon}} {
			wantAsPlainObeyed(t, "the tries are spent, and something else", a, o)
		}
	}
}

// drawnPlan is a small plan whose pods and locks are soon done with.
func drawnPlan(draw func(int64) int64) impl.Plan {
	p := smallPlan()
	p.Mins[0], p.LockMax = draw(2), draw(4)
	// Where the tries are soon spent, that is the end of all.
	if draw(6) > 0 {
		p.Tries = 30
	}
	for pod := range p.Pods {
		p.Pods[pod].Hook, p.Pods[pod].Grace = draw(4)*draw(9), draw(3)
	}
	return p
}

func drawFrom(seed int64) func(int64) int64 {
	return func(below int64) int64 {
		seed = (seed*1103515245 + 12345) % (1 << 31)
		return seed / 65536 % below
	}
}

// drawnFor is an order for a, most of the time one that is done. Those that end
// all at once come seldom.
func drawnFor(a impl.Agent, draw func(int64) int64) impl.Order {
	if draw(4) == 0 {
		return drawnOrder(draw)
	}
	for {
		kind := 1 + draw(13)
		early := a.State.Phase < impl.PhReboot && (kind == impl.OdCancel || kind == impl.OdBoot)
		if done := doneOf(a, kind, draw(5)); len(done) > 0 && (!early || draw(60) == 0) {
			return done[draw(int64(len(done)))]
		}
	}
}

// doneOf are the orders of that kind that are done, with that B where one is
// named.
func doneOf(a impl.Agent, kind, b int64) []impl.Order {
	done := []impl.Order{}
	for n := range int64(9) {
		o := impl.Order{Kind: kind, A: n, B: min(b, mostOf()[kind][1])}
		if _, code := plainPlanned(a.Plan, a.State, o); code == impl.CdOk {
			done = append(done, o)
		}
	}
	return done
}

// Orders one after the other, hundreds of them, over several beginnings of the
// store.
func TestPromise15OneAfterTheOther(t *testing.T) {
	anew, done, phases, codes := 0, map[int64]int{}, map[int64]int{}, map[int64]int{}
	for seed := range int64(40) {
		draw := drawFrom(seed)
		a, _ := impl.NewAgent(drawnPlan(draw))
		for range 400 {
			o := drawnFor(a, draw)
			made, code := wantAsPlainObeyed(t, "as it comes", a, o)
			codes[code]++
			phases[made.State.Phase]++
			if code == impl.CdOk {
				done[o.Kind]++
				if len(made.Store) <= len(a.Store) {
					anew++
				}
			}
			a = made
		}
	}
	if anew < 100 {
		t.Errorf("only %d stores begin anew", anew)
	}
	for kind := int64(1); kind <= 13; kind++ {
		if done[kind] < 3 {
			t.Errorf("only %d of kind %d are done", done[kind], kind)
		}
	}
	for phase := range int64(9) {
		if phases[phase] < 20 {
			t.Errorf("only %d are in phase %d", phases[phase], phase)
		}
	}
	for _, code := range []int64{impl.CdBad, impl.CdNone, impl.CdPhase, impl.CdState} {
		if codes[code] < 20 {
			t.Errorf("only %d answer %d", codes[code], code)
		}
	}
}

// Ticks alone: the store begins anew again and again, and the clock goes on.
func TestPromise15NothingButTicks(t *testing.T) {
	a := agentOf(t, smallPlan())
	anew := 0
	for clock := int64(1); clock <= 1000; clock++ {
		size := len(a.Store)
		a = wantObeyed(t, "a tick", a, impl.Order{Kind: impl.OdTick}, size+len(plainFrame([]impl.Rec{clockIs(clock)})) > 1200, clockIs(clock))
		if len(a.Store) < size {
			anew++
		}
	}
	if anew < 7 {
		t.Errorf("only %d stores begin anew", anew)
	}
	last := agentOf(t, smallPlan(), []impl.Rec{clockIs(999999)})
	last = wantObeyed(t, "the last tick", last, impl.Order{Kind: impl.OdTick}, false, clockIs(1000000))
	wantDisobeyed(t, "no tick is left", last, impl.CdSpent, impl.Order{Kind: impl.OdTick})
}
