package tests

import (
	"bytes"
	"math"
	"slices"
	"testing"

	"loop.example/g00767/impl"
)

// roomyPlan is p with lists of its own, each with spare room behind it that is
// filled with what no plan has, so that a write into it is seen.
func roomyPlan(p impl.Plan) impl.Plan {
	p.Pods = roomy(p.Pods, impl.Pod{Group: -7, Band: -7, Grace: -7, Hook: -7})
	p.Mins = roomy(p.Mins, -7)
	p.Mounts = roomy(p.Mounts, impl.Mount{Pod: -7, Parent: -7})
	p.Devices = roomy(p.Devices, impl.Device{Mount: -7})
	return p
}

func roomy[T any](list []T, filler T) []T {
	whole := slices.Clone(list)
	for range 5 {
		whole = append(whole, filler)
	}
	return whole[:len(list)]
}

// samePlan looks at the spare room behind the lists too.
func samePlan(a, b impl.Plan) bool {
	return sameToTheEnd(a.Pods, b.Pods) && sameToTheEnd(a.Mins, b.Mins) &&
		sameToTheEnd(a.Mounts, b.Mounts) && sameToTheEnd(a.Devices, b.Devices) &&
		a.LockMax == b.LockMax && a.Probes == b.Probes && a.Tries == b.Tries
}

func sameToTheEnd[T comparable](a, b []T) bool {
	return len(a) == len(b) && slices.Equal(a[:len(a)+5], b[:len(b)+5])
}

// oddPlans are right ones and ones that are wrong in one way or many.
func oddPlans() []impl.Plan {
	list := []impl.Plan{{}, {Probes: 1, Tries: 1}, smallPlan(), fullPlan()}
	fields := []func(p *impl.Plan) *int64{
		func(p *impl.Plan) *int64 { return &p.Pods[2].Group },
		func(p *impl.Plan) *int64 { return &p.Pods[0].Band },
		func(p *impl.Plan) *int64 { return &p.Pods[1].Grace },
		func(p *impl.Plan) *int64 { return &p.Pods[1].Hook },
		func(p *impl.Plan) *int64 { return &p.Mins[0] },
		func(p *impl.Plan) *int64 { return &p.Mounts[3].Pod },
		func(p *impl.Plan) *int64 { return &p.Mounts[3].Parent },
		func(p *impl.Plan) *int64 { return &p.Devices[0].Mount },
		func(p *impl.Plan) *int64 { return &p.LockMax },
		func(p *impl.Plan) *int64 { return &p.Probes },
		func(p *impl.Plan) *int64 { return &p.Tries },
	}
	for _, field := range fields {
		for _, n := range someNumbers() {
			p := smallPlan()
			*field(&p) = n
			list = append(list, p)
		}
	}
	n := int64(math.MinInt64)
	long := impl.Plan{LockMax: n, Probes: n, Tries: n}
	for range 1000 {
		long.Pods = append(long.Pods, impl.Pod{Group: n, Band: n, Grace: n, Hook: n})
		long.Mins = append(long.Mins, n)
		long.Mounts = append(long.Mounts, impl.Mount{Pod: n, Parent: n})
		long.Devices = append(long.Devices, impl.Device{Mount: n})
	}
	return append(list, long)
}

// listCalls are the functions of chapters 1 and 2 that answer a list.
func listCalls() map[string]func(impl.Plan, int64) []int64 {
	return map[string]func(impl.Plan, int64) []int64{
		"PodsIn": impl.PodsIn, "ChildrenOf": impl.ChildrenOf, "MountsOf": impl.MountsOf,
		"BandsOf": func(p impl.Plan, _ int64) []int64 { return impl.BandsOf(p) },
		"PodsOf":  impl.PodsOf,
	}
}

// numberCalls are those that answer a number, or a flag as 1 or 0.
func numberCalls() map[string]func(impl.Plan, int64) int64 {
	return map[string]func(impl.Plan, int64) int64{
		"PlanOk": func(p impl.Plan, _ int64) int64 {
			if impl.PlanOk(p) {
				return 1
			}
			return 0
		},
		"NextBand": impl.NextBand, "BandTime": impl.BandTime,
		"WholeTime": func(p impl.Plan, _ int64) int64 { return impl.WholeTime(p) },
	}
}

// quiet does what it is given, and fails where that panics.
func quiet(t *testing.T, name string, do func()) {
	t.Helper()
	defer func() {
		if r := recover(); r != nil {
			t.Errorf("%s panics: %v", name, r)
		}
	}()
	do()
}

func TestPromise19NeverPanicsNorWrites(t *testing.T) {
	for _, odd := range oddPlans() {
		p := roomyPlan(odd)
		for _, n := range someNumbers() {
			for name, call := range listCalls() {
				quiet(t, name, func() { call(p, n) })
			}
			for name, call := range numberCalls() {
				quiet(t, name, func() { call(p, n) })
			}
		}
		if !samePlan(p, roomyPlan(odd)) {
			t.Fatalf("the argument is another one now: %v, it was %v", p, odd)
		}
	}
}

func TestPromise19AnswersAreNewMemory(t *testing.T) {
	for _, odd := range oddPlans() {
		p := roomyPlan(odd)
		for name, call := range listCalls() {
			for _, n := range someNumbers() {
				once, twice := call(p, n), call(p, n)
				before := slices.Clone(twice)
				overwrite(once)
				if !slices.Equal(twice, before) || !slices.Equal(call(p, n), before) {
					t.Fatalf("%s of %d: two answers share memory", name, n)
				}
				if !samePlan(p, roomyPlan(odd)) {
					t.Fatalf("%s of %d shares memory with its argument", name, n)
				}
			}
		}
	}
}

// overwrite writes into a list and into all the room behind it.
func overwrite(list []int64) {
	overwriteWith(list, -99)
}

func overwriteWith[T any](list []T, filler T) {
	list = list[:cap(list)]
	for i := range list {
		list[i] = filler
	}
}

func TestPromise19AnswersTheSameAgain(t *testing.T) {
	for _, p := range oddPlans() {
		for _, n := range someNumbers() {
			for name, call := range listCalls() {
				if !slices.Equal(call(p, n), call(roomyPlan(p), n)) {
					t.Fatalf("%s of %d answers otherwise the second time", name, n)
				}
			}
			for name, call := range numberCalls() {
				if call(p, n) != call(roomyPlan(p), n) {
					t.Fatalf("%s of %d answers otherwise the second time", name, n)
				}
			}
		}
	}
}

// oddRecs are lists of records, right ones and ones that are wrong in one way
// or many.
func oddRecs() [][]impl.Rec {
	lists := [][]impl.Rec{nil, {}, manyRecs(1), manyRecs(80), manyRecs(81), manyRecs(5000), make([]impl.Rec, 100000)}
	numbers := slices.Concat(someNumbers(), fieldEdges(), wrongFields(), wrongKinds())
	for _, n := range numbers {
		for _, r := range []impl.Rec{{Kind: n}, {Kind: 1, A: n}, {Kind: 12, B: n}, {Kind: n, A: n, B: n}} {
			lists = append(lists, []impl.Rec{r}, append(manyRecs(3), r), append([]impl.Rec{r}, manyRecs(80)...))
		}
	}
	return lists
}

// oddBytes are the bytes of lists, and such of which no list comes.
func oddBytes() [][]byte {
	lists := [][]byte{nil, {}, bytes.Repeat([]byte{0}, 3000), bytes.Repeat([]byte{255}, 3000), bytes.Repeat([]byte{128}, 100000)}
	for _, list := range [][]impl.Rec{nil, manyRecs(1), manyRecs(4), manyRecs(80), manyRecs(81), manyRecs(5000)} {
		b := plainBytes(list)
		lists = append(lists, b, append(slices.Clone(b), 0), b[:len(b)-1], b[1:])
	}
	for i := range 256 {
		lists = append(lists, []byte{byte(i)}, []byte{1, byte(i), 0, 0}, []byte{1, 1, byte(i), 0}, bytes.Repeat([]byte{byte(i)}, 30))
	}
	return lists
}

// wantOwnMemory calls call twice with odd: it does not panic, answers alike, and
// writes neither into its argument nor into its other answer.
func wantOwnMemory[A, B comparable](t *testing.T, name string, call func([]A) ([]B, bool), odd []A, oddFiller A, filler B) {
	t.Helper()
	list := roomy(odd, oddFiller)
	quiet(t, name, func() {
		once, right := call(list)
		twice, again := call(list)
		before := slices.Clone(twice)
		if right != again || !slices.Equal(once, before) || !right && len(once) != 0 {
			t.Fatalf("%s answers %v, %v, then %v, %v", name, once, right, before, again)
		}
		overwriteWith(once, filler)
		if !slices.Equal(twice, before) {
			t.Fatalf("two answers of %s share memory", name)
		}
	})
	if !sameToTheEnd(list, roomy(odd, oddFiller)) {
		t.Fatalf("%s writes into its argument", name)
	}
}

func TestPromise19RecBytes(t *testing.T) {
	for _, list := range oddRecs() {
		wantOwnMemory(t, "RecBytes", impl.RecBytes, list, impl.Rec{Kind: -7, A: -7, B: -7}, 99)
	}
}

func TestPromise19ReadRecs(t *testing.T) {
	for _, b := range oddBytes() {
		wantOwnMemory(t, "ReadRecs", impl.ReadRecs, b, 77, impl.Rec{Kind: -99, A: -99, B: -99})
	}
}

func TestPromise19RecOk(t *testing.T) {
	for _, list := range oddRecs() {
		for _, r := range list[:min(len(list), 100)] {
			quiet(t, "RecOk", func() {
				right := 1 <= r.Kind && r.Kind <= 12 && 0 <= r.A && r.A <= 1000000 && 0 <= r.B && r.B <= 1000000
				if impl.RecOk(r) != right || impl.RecOk(r) != right {
					t.Errorf("RecOk of %v is not %v", r, right)
				}
			})
		}
	}
}

// oddStores are stores, torn ones, and bytes that are none.
func oddStores() [][]byte {
	stores := append(oddBytes(), make([]byte, 100000), bytes.Repeat([]byte{1, 0, 217, 0, 0}, 20000))
	stores = append(stores, bytes.Repeat(plainFrame(manyRecs(2)), 4))
	whole := plainStore(someLists()[:6]...)
	for cut := range len(whole) + 1 {
		stores = append(stores, whole[:cut])
	}
	for _, body := range notRecs() {
		stores = append(stores, wholeOf(body), slices.Concat(whole, wholeOf(body), whole))
	}
	for _, list := range oddRecs()[:6] {
		stores = append(stores, wholeOf(plainBytes(list)), headed(65535, 65535, plainBytes(list)))
	}
	return stores
}

func TestPromise19SumOf(t *testing.T) {
	for _, odd := range oddStores() {
		b := roomy(odd, 77)
		quiet(t, "SumOf", func() {
			if sum := impl.SumOf(b); sum < 0 || sum >= 65521 || impl.SumOf(slices.Clone(odd)) != sum {
				t.Errorf("SumOf %v is %d", b, sum)
			}
		})
		if !sameToTheEnd(b, roomy(odd, 77)) {
			t.Fatal("SumOf writes into its argument")
		}
	}
}

func TestPromise19Framed(t *testing.T) {
	for _, list := range oddRecs() {
		wantOwnMemory(t, "Framed", impl.Framed, list, impl.Rec{Kind: -7, A: -7, B: -7}, 99)
	}
}

func TestPromise19ReadFrames(t *testing.T) {
	for _, odd := range oddStores() {
		b := roomy(odd, 77)
		quiet(t, "ReadFrames", func() {
			once, size := impl.ReadFrames(b)
			twice, again := impl.ReadFrames(b)
			if size != again || size < 0 || size > int64(len(b)) || !sameLists(once, twice) {
				t.Fatalf("ReadFrames of %v answers %v, %d, then %v, %d", b, once, size, twice, again)
			}
			wantApart(t, once, twice)
		})
		if !sameToTheEnd(b, roomy(odd, 77)) {
			t.Fatal("ReadFrames writes into its argument")
		}
	}
}

// wantApart writes into each of these lists, and into the room behind it,
// something of its own: it stays so, and neither the lists behind it nor those
// of the other answer are other ones then.
func wantApart(t *testing.T, lists, other [][]impl.Rec) {
	t.Helper()
	own := func(i int) impl.Rec { return impl.Rec{Kind: -99, A: -int64(i), B: -1} }
	for i, list := range lists {
		if !slices.Equal(list, other[i]) {
			t.Fatalf("list %d shares memory with one ahead of it", i)
		}
		overwriteWith(list, own(i))
	}
	for i, list := range lists {
		if slices.ContainsFunc(list, func(r impl.Rec) bool { return r != own(i) }) {
			t.Fatalf("list %d shares memory with one behind it", i)
		}
		if slices.ContainsFunc(other[i], func(r impl.Rec) bool { return r.Kind == -99 }) {
			t.Fatalf("list %d shares memory with another answer", i)
		}
	}
	overwriteWith(lists, []impl.Rec{{Kind: -99}})
	if slices.ContainsFunc(other, func(list []impl.Rec) bool { return len(list) > 0 && list[0].Kind == -99 }) {
		t.Fatal("two answers of ReadFrames share memory")
	}
}

func TestPromise19WithFrame(t *testing.T) {
	lists := append(someLists(), wrongLists()...)
	for i, odd := range oddStores() {
		for _, list := range [][]impl.Rec{nil, lists[i%len(lists)]} {
			wantStoreApart(t, odd, list)
		}
	}
}

// wantStoreApart calls WithFrame twice: it writes into neither of its
// arguments, and what is written into its answer is seen nowhere else.
func wantStoreApart(t *testing.T, odd []byte, oddList []impl.Rec) {
	t.Helper()
	filler := impl.Rec{Kind: -7, A: -7, B: -7}
	b, list := roomy(odd, 77), roomy(oddList, filler)
	quiet(t, "WithFrame", func() {
		once, right := impl.WithFrame(b, list)
		twice, again := impl.WithFrame(b, list)
		before := slices.Clone(twice)
		if right != again || !slices.Equal(once, before) {
			t.Fatalf("WithFrame answers %v, %v, then %v, %v", once, right, before, again)
		}
		overwriteWith(once, 99)
		if !slices.Equal(twice, before) {
			t.Fatal("two answers of WithFrame share memory")
		}
	})
	if !sameToTheEnd(b, roomy(odd, 77)) || !sameToTheEnd(list, roomy(oddList, filler)) {
		t.Fatal("WithFrame writes into an argument, or its answer shares memory with one")
	}
}

// roomyState is s with lists of its own, each with spare room behind it that is
// filled with what no state has.
func roomyState(s impl.State) impl.State {
	s.Pods = roomy(s.Pods, impl.PodAt{State: -7, Since: -7})
	s.Mounts = roomy(s.Mounts, impl.MountAt{Held: true, Busy: -7})
	s.Devices = roomy(s.Devices, true)
	s.Locks = roomy(s.Locks, -7)
	return s
}

// sameStateToTheEnd looks at the spare room behind the lists too.
func sameStateToTheEnd(a, b impl.State) bool {
	return equalStates(a, b) && sameToTheEnd(a.Pods, b.Pods) && sameToTheEnd(a.Mounts, b.Mounts) &&
		sameToTheEnd(a.Devices, b.Devices) && sameToTheEnd(a.Locks, b.Locks)
}

// oddStates are right ones, of some plan or other, and ones that are wrong in
// one way or many.
func oddStates() []impl.State {
	list := []impl.State{{}, busyState(), edgeState(), plainNew(smallPlan()), plainNew(fullPlan())}
	for _, spoil := range stateSpoils() {
		small, full := busyState(), edgeState()
		spoil(&small)
		spoil(&full)
		list = append(list, small, full)
	}
	n := int64(math.MinInt64)
	long := impl.State{Phase: n, Clock: n, Boot: n, Band: n, LockBy: n, Good: n, Probes: n}
	for range 1000 {
		long.Pods = append(long.Pods, impl.PodAt{State: n, Since: n})
		long.Mounts = append(long.Mounts, impl.MountAt{Busy: n})
		long.Devices = append(long.Devices, false)
		long.Locks = append(long.Locks, n)
	}
	return append(list, long, inStates(make([]int64, 1000)...))
}

func TestPromise19StateOk(t *testing.T) {
	for _, oddPlan := range oddPlans() {
		p := roomyPlan(oddPlan)
		for _, odd := range oddStates() {
			s := roomyState(odd)
			quiet(t, "StateOk", func() {
				if impl.StateOk(p, s) != impl.StateOk(roomyPlan(oddPlan), odd) {
					t.Errorf("StateOk of %v and %v answers otherwise the second time", oddPlan, odd)
				}
			})
			if !sameStateToTheEnd(s, roomyState(odd)) {
				t.Fatal("StateOk writes into its state")
			}
		}
		if !samePlan(p, roomyPlan(oddPlan)) {
			t.Fatal("StateOk writes into its plan")
		}
	}
}

func TestPromise19NewState(t *testing.T) {
	for _, odd := range append(oddPlans(), rightPlans()...) {
		p := roomyPlan(odd)
		quiet(t, "NewState", func() {
			once, twice := impl.NewState(p), impl.NewState(p)
			before := ownState(twice)
			if !equalStates(once, before) {
				t.Fatalf("NewState answers %v, then %v", once, before)
			}
			overwriteState(once)
			if !equalStates(twice, before) || !equalStates(impl.NewState(p), before) {
				t.Fatal("two answers of NewState share memory")
			}
		})
		if !samePlan(p, roomyPlan(odd)) {
			t.Fatal("NewState writes into its plan, or its answer shares memory with it")
		}
	}
}

func overwriteState(s impl.State) {
	overwriteWith(s.Pods, impl.PodAt{State: -99, Since: -99})
	overwriteWith(s.Mounts, impl.MountAt{Busy: -99})
	overwriteWith(s.Devices, false)
	overwriteWith(s.Locks, -99)
}

func TestPromise19LiveIn(t *testing.T) {
	for _, odd := range oddStates() {
		s := roomyState(odd)
		quiet(t, "LiveIn", func() {
			once, twice := impl.LiveIn(s), impl.LiveIn(s)
			before := slices.Clone(twice)
			if !slices.Equal(once, before) {
				t.Fatalf("LiveIn answers %v, then %v", once, before)
			}
			overwrite(once)
			if !slices.Equal(twice, before) || !slices.Equal(impl.LiveIn(s), before) {
				t.Fatal("two answers of LiveIn share memory")
			}
		})
		if !sameStateToTheEnd(s, roomyState(odd)) {
			t.Fatal("LiveIn writes into its state, or its answer shares memory with it")
		}
	}
}

func TestPromise19Alive(t *testing.T) {
	for _, n := range append(someNumbers(), wrongFields()...) {
		quiet(t, "Alive", func() {
			if impl.Alive(n) != (0 <= n && n <= 3) {
				t.Errorf("Alive of %d answers otherwise", n)
			}
		})
	}
}

// stateCall is a call of chapter 6: AppliedRec is given a list of one record.
type stateCall func(p impl.Plan, s impl.State, list []impl.Rec) (impl.State, bool)

func appliedOne(p impl.Plan, s impl.State, list []impl.Rec) (impl.State, bool) {
	return impl.AppliedRec(p, s, list[0])
}

// wantStateApart calls call twice: it does not panic, answers alike, and what is
// written into an answer is seen neither in an argument nor in the other answer.
// (The lists of one state are of unlike types, so no two of them share memory.)
func wantStateApart(t *testing.T, name string, call stateCall, oddPlan impl.Plan, odd impl.State, oddList []impl.Rec) {
	t.Helper()
	filler := impl.Rec{Kind: -7, A: -7, B: -7}
	p, s, list := roomyPlan(oddPlan), roomyState(odd), roomy(oddList, filler)
	quiet(t, name, func() {
		once, right := call(p, s, list)
		twice, again := call(p, s, list)
		before := ownState(twice)
		if right != again || !equalStates(once, before) {
			t.Fatalf("%s of %v answers %+v, %v, then %+v, %v", name, oddList, once, right, before, again)
		}
		overwriteState(once)
		if !equalStates(twice, before) {
			t.Fatalf("two answers of %s of %v share memory", name, oddList)
		}
	})
	if !samePlan(p, roomyPlan(oddPlan)) || !sameStateToTheEnd(s, roomyState(odd)) || !sameToTheEnd(list, roomy(oddList, filler)) {
		t.Fatalf("%s of %v writes into an argument, or its answer shares memory with one", name, oddList)
	}
}

// edgeRecs are records of each kind, and of none, that are true, or false, in
// most states.
func edgeRecs() []impl.Rec {
	list := []impl.Rec{}
	for _, kind := range append(recKinds(), wrongKinds()...) {
		for _, a := range []int64{math.MinInt64, -1, 0, 1, 2, 5, 7, 8, 12, 1000000, 1000001, math.MaxInt64} {
			for _, b := range []int64{-1, 0, 1, 5, 6, 7, math.MaxInt64} {
				list = append(list, impl.Rec{Kind: kind, A: a, B: b})
			}
		}
	}
	return list
}

func TestPromise19AppliedRec(t *testing.T) {
	for _, c := range planStates() {
		for _, r := range edgeRecs() {
			wantStateApart(t, "AppliedRec", appliedOne, c.plan, c.from, []impl.Rec{r})
		}
	}
	for _, p := range oddPlans() {
		for _, s := range oddStates() {
			for _, r := range []impl.Rec{{Kind: impl.RcPod, A: 2, B: 5}, {Kind: impl.RcLock, A: 3}, {Kind: -1}} {
				wantStateApart(t, "AppliedRec", appliedOne, p, s, []impl.Rec{r})
			}
		}
	}
}

func TestPromise19AppliedAll(t *testing.T) {
	lists := append(oddRecs(), changingRecs())
	for _, r := range falseRecs() {
		for place := range len(changingRecs()) + 1 {
			lists = append(lists, slices.Insert(changingRecs(), place, r))
		}
	}
	for seed := range int64(50) {
		lists = append(lists, madeRecs(seed, 30))
	}
	for _, c := range planStates() {
		for _, list := range lists {
			wantStateApart(t, "AppliedAll", impl.AppliedAll, c.plan, c.from, list)
		}
	}
	for _, p := range oddPlans() {
		for _, s := range oddStates() {
			for _, list := range [][]impl.Rec{nil, changingRecs(), falseRecs()} {
				wantStateApart(t, "AppliedAll", impl.AppliedAll, p, s, list)
			}
		}
	}
}

// Even arguments that share memory with each other stay as they are.
func TestPromise19ArgumentsThatShareMemory(t *testing.T) {
	numbers := []int64{1, 4, 6, -7, -7}
	p, s := smallPlan(), busyState()
	p.Mins, s.Locks = numbers[:3], numbers[:3]
	for _, r := range []impl.Rec{{Kind: impl.RcLock, A: 2}, {Kind: impl.RcUnlock, A: 1}, {Kind: impl.RcPhase}, {Kind: impl.RcLock, A: 8}} {
		once, _ := impl.AppliedRec(p, s, r)
		all, _ := impl.AppliedAll(p, s, []impl.Rec{r, {Kind: impl.RcBand, A: 7}})
		overwriteState(once)
		overwriteState(all)
		if !alike(numbers, 1, 4, 6, -7, -7) {
			t.Fatalf("%v: the numbers are %v now", r, numbers)
		}
	}
}

// What chapter 7 is given and answers are numbers: no memory can be shared.
func TestPromise19PodStep(t *testing.T) {
	numbers := []int64{math.MinInt64, math.MinInt64 + 1, -501, -1, 0, 1, 2, 3, 4, 5, 6, 7, 500, 1000000, math.MaxInt64 - 1, math.MaxInt64}
	for _, hook := range numbers {
		for _, grace := range numbers {
			quiet(t, "PodStep", func() {
				for _, state := range numbers {
					for _, since := range numbers {
						for _, clock := range numbers {
							d, at := impl.Pod{Hook: hook, Grace: grace}, impl.PodAt{State: state, Since: since}
							other := impl.Pod{Group: clock, Band: since, Hook: hook, Grace: grace}
							next := impl.PodStep(d, at, clock)
							if next != impl.PodStep(d, at, clock) || next != impl.PodStep(other, at, clock) {
								t.Fatalf("PodStep of %+v, %+v at %d answers otherwise the second time", d, at, clock)
							}
							if next != state && (next < 1 || next > 4) {
								t.Fatalf("PodStep of %+v, %+v at %d is %d", d, at, clock, next)
							}
						}
					}
				}
			})
		}
	}
}

func TestPromise19AfterHookAndExit(t *testing.T) {
	for _, n := range slices.Concat(someNumbers(), wrongFields(), notStates()) {
		quiet(t, "AfterHook", func() {
			if next := impl.AfterHook(n); next != impl.AfterHook(n) || next != -1 && next != 2 {
				t.Errorf("AfterHook of %d is %d", n, next)
			}
		})
		quiet(t, "AfterExit", func() {
			if next := impl.AfterExit(n); next != impl.AfterExit(n) || next != -1 && next != 4 && next != 5 {
				t.Errorf("AfterExit of %d is %d", n, next)
			}
		})
	}
}

// askCall is a call that asks a number of a state beside its plan.
type askCall func(p impl.Plan, s impl.State, n int64) int64

// askFlag makes the flag that may answers 1 or 0.
func askFlag(may func(impl.Plan, impl.State, int64) bool) askCall {
	return func(p impl.Plan, s impl.State, n int64) int64 {
		if may(p, s, n) {
			return 1
		}
		return 0
	}
}

func budgetCalls() map[string]askCall {
	return map[string]askCall{"HealthyIn": impl.HealthyIn, "MayEvict": askFlag(impl.MayEvict)}
}

func holdCalls() map[string]askCall {
	return map[string]askCall{"MayFree": askFlag(impl.MayFree), "MayGive": askFlag(impl.MayGive)}
}

// wantAskCalls checks that these do not panic, answer a number that can be, the
// same one again of other memory, and write into no argument.
func wantAskCalls(t *testing.T, calls map[string]askCall, oddPlan impl.Plan, odd impl.State, numbers []int64) {
	t.Helper()
	p, s := roomyPlan(oddPlan), roomyState(odd)
	// Nothing is asked of these, so that they tell what p and s were.
	wasPlan, was := roomyPlan(oddPlan), roomyState(odd)
	for name, call := range calls {
		for _, n := range numbers {
			quiet(t, name, func() {
				got := call(p, s, n)
				if !samePlan(p, wasPlan) || !sameStateToTheEnd(s, was) {
					t.Fatalf("%s of %d writes into an argument", name, n)
				}
				if got < -1 || got > 12 || got != call(p, s, n) || got != call(oddPlan, odd, n) {
					t.Fatalf("%s of %d, %+v and %+v is %d, or answers otherwise the second time", name, n, oddPlan, odd, got)
				}
			})
		}
	}
}

func TestPromise19Budgets(t *testing.T) {
	plans, states := oddPlans(), append(oddStates(), draining(smallPlan()), draining(fullPlan()))
	for _, p := range plans {
		for _, s := range states {
			wantAskCalls(t, budgetCalls(), p, s, []int64{math.MinInt64, -1, 0, 2, 3, 12, 1 << 32, math.MaxInt64})
		}
	}
	numbers := append(someNumbers(), notNumbers()...)
	for _, p := range []impl.Plan{{}, {Probes: 1, Tries: 1}, groupsPlan([]int64{0, 1}), smallPlan(), fullPlan(), plans[len(plans)-1]} {
		for _, s := range append(states, draining(p), impl.State{Phase: impl.PhDraining, Cordon: true}) {
			wantAskCalls(t, budgetCalls(), p, s, numbers)
		}
	}
	for seed := range int64(100) {
		p := madePlan(seed)
		s := madeState(p, seed)
		wantAskCalls(t, budgetCalls(), p, s, numbers)
		s.Phase, s.Cordon = impl.PhDraining, true
		wantAskCalls(t, budgetCalls(), p, s, numbers)
	}
}

// The lists of a plan and of a state beside it may be of one memory: it stays.
func TestPromise19BudgetsOfSharedMemory(t *testing.T) {
	numbers := []int64{0, 1, 3, -7, -7}
	p, s := smallPlan(), draining(smallPlan(), impl.PdRunning, impl.PdKill)
	p.Mins, s.Locks = numbers[:3], numbers[:3]
	if impl.HealthyIn(p, s, 0) != 2 || impl.HealthyIn(p, s, 1) != 0 || !impl.MayEvict(p, s, 2) || impl.MayEvict(p, s, 1) {
		t.Error("the answers are others")
	}
	if !alike(numbers, 0, 1, 3, -7, -7) {
		t.Errorf("the numbers are %v now", numbers)
	}
}

func TestPromise19Holding(t *testing.T) {
	plans, states := oddPlans(), append(oddStates(), ended(smallPlan(), 4), ended(fullPlan(), 11))
	for _, p := range plans {
		for _, s := range states {
			wantAskCalls(t, holdCalls(), p, s, []int64{math.MinInt64, -1, 0, 2, 3, 4, 5, 11, 12, 1 << 32, math.MaxInt64})
		}
	}
	numbers := append(someNumbers(), notNumbers()...)
	for _, p := range []impl.Plan{{}, {Probes: 1, Tries: 1}, mountsPlan(), mountsPlan(-1, 0, 0), smallPlan(), fullPlan(), plans[len(plans)-1]} {
		for _, s := range append(states, ended(p), impl.State{Phase: impl.PhReleasing, Cordon: true}) {
			wantAskCalls(t, holdCalls(), p, s, numbers)
		}
	}
	for seed := range int64(100) {
		p := madePlan(seed)
		wantAskCalls(t, holdCalls(), p, madeState(p, seed), numbers)
		wantAskCalls(t, holdCalls(), p, ended(p), numbers)
	}
}

// Here too the lists may be of one memory.
func TestPromise19HoldingOfSharedMemory(t *testing.T) {
	numbers := []int64{1, 4, 6, -7, -7}
	p, s := smallPlan(), ended(smallPlan(), 4)
	p.Mins, s.Locks = numbers[:3], numbers[:3]
	if !impl.MayFree(p, s, 3) || impl.MayFree(p, s, 0) || !impl.MayGive(p, s, 2) || impl.MayGive(p, s, 1) {
		t.Error("the answers are others")
	}
	if !alike(numbers, 1, 4, 6, -7, -7) {
		t.Errorf("the numbers are %v now", numbers)
	}
}

// wantListApart calls one that answers records and a code twice: it does not
// panic, answers alike, has no records with a code but CdOk, and what is written
// into its records is seen neither in an argument nor in the other answer.
func wantListApart(t *testing.T, name string, call func(impl.Plan, impl.State) ([]impl.Rec, int64), oddPlan impl.Plan, odd impl.State) {
	t.Helper()
	p, s := roomyPlan(oddPlan), roomyState(odd)
	quiet(t, name, func() {
		once, code := call(p, s)
		twice, again := call(oddPlan, odd)
		before := slices.Clone(twice)
		if code != again || !slices.Equal(once, before) || code != impl.CdOk && len(once) != 0 {
			t.Fatalf("%s answers %v, %d, then %v, %d", name, once, code, before, again)
		}
		overwriteWith(once, impl.Rec{Kind: -99, A: -99, B: -99})
		if !slices.Equal(twice, before) {
			t.Fatalf("two answers of %s share memory", name)
		}
		third, _ := call(p, s)
		if !slices.Equal(third, before) {
			t.Fatalf("%s answers %v the third time, not %v", name, third, before)
		}
	})
	if !samePlan(p, roomyPlan(oddPlan)) || !sameStateToTheEnd(s, roomyState(odd)) {
		t.Fatalf("%s writes into an argument, or its answer shares memory with one", name)
	}
}

func wantCommandsApart(t *testing.T, p impl.Plan, s impl.State, kinds, numbers []int64) {
	t.Helper()
	for _, kind := range kinds {
		for i, a := range numbers {
			b := numbers[(i+3)%len(numbers)]
			wantListApart(t, "Commanded", func(p impl.Plan, s impl.State) ([]impl.Rec, int64) {
				return impl.Commanded(p, s, kind, a, b)
			}, p, s)
		}
	}
}

func TestPromise19Commanded(t *testing.T) {
	kinds := []int64{1, 2, 3, 4, 5, 6, 7, 8, 9, 10}
	for _, p := range oddPlans() {
		for _, s := range append(oddStates(), readyState(impl.PhDraining)) {
			wantCommandsApart(t, p, s, []int64{3, 4, 10}, []int64{-1, 1, math.MaxInt64})
		}
	}
	numbers := []int64{math.MinInt64, -1 << 32, -1, 0, 1, 2, 3, 5, 7, 8, 11, 12, 1 << 32, math.MaxInt64}
	for _, p := range []impl.Plan{{}, {Probes: 1, Tries: 1}, groupsPlan([]int64{0, 1}), smallPlan(), fullPlan()} {
		for _, s := range append(oddStates(), draining(p), ended(p)) {
			wantCommandsApart(t, p, s, append(otherKinds(), kinds...), numbers)
		}
	}
	for phase := range int64(9) {
		wantCommandsApart(t, smallPlan(), readyState(phase), kinds, numbers)
	}
	for seed := range int64(40) {
		p := madePlan(seed)
		wantCommandsApart(t, p, madeState(p, seed), kinds, numbers)
		wantCommandsApart(t, p, draining(p), kinds, numbers)
	}
}

// Here too the lists may be of one memory.
func TestPromise19CommandedOfSharedMemory(t *testing.T) {
	numbers := []int64{0, 1, 3, -7, -7}
	p, s := smallPlan(), readyState(impl.PhDraining)
	p.Mins, s.Locks = numbers[:3], numbers[:3]
	for _, c := range readyCommands() {
		list, _ := commanded(p, s, c.said)
		overwriteWith(list, impl.Rec{Kind: -99, A: -99, B: -99})
	}
	if !alike(numbers, 0, 1, 3, -7, -7) {
		t.Errorf("the numbers are %v now", numbers)
	}
}

// tickStates are states of p that shut each band or none, or release, with
// what is held and who is alive in several ways.
func tickStates(p impl.Plan) []impl.State {
	list := []impl.State{}
	for state := range int64(7) {
		for band := range int64(7) {
			list = append(list, shutting(p, band, slices.Repeat([]int64{state}, len(p.Pods))...))
		}
		s := ended(p)
		for i := range s.Mounts {
			s.Mounts[i] = impl.MountAt{Held: int64(i)%7 != state, Busy: int64(i) % 7 * state % 3}
			if !s.Mounts[i].Held {
				s.Mounts[i].Busy = 0
			}
		}
		s.Clock = 1000000 - state
		list = append(list, s)
	}
	return list
}

func TestPromise19TickRecs(t *testing.T) {
	for _, p := range oddPlans() {
		for _, s := range append(oddStates(), shutting(smallPlan(), 1), shutting(fullPlan(), 5), ended(smallPlan(), 4), ended(fullPlan())) {
			wantListApart(t, "TickRecs", impl.TickRecs, p, s)
		}
	}
	for _, p := range []impl.Plan{{}, {Probes: 1, Tries: 1}, inBands(0, 5, 5), mountsPlan(-1, 0, 1), smallPlan(), fullPlan(), fullBands()} {
		for _, s := range append(oddStates(), tickStates(p)...) {
			for _, n := range append(someNumbers(), 41, 42, 1000, 999999, 1000000, 1000001) {
				ticked, locked := s, s
				ticked.Clock, locked.LockBy, locked.Locks = n, n, []int64{3}
				wantListApart(t, "TickRecs", impl.TickRecs, p, ticked)
				wantListApart(t, "TickRecs", impl.TickRecs, p, locked)
			}
		}
	}
	for seed := range int64(100) {
		p := madePlan(seed)
		for _, s := range append(tickStates(p), madeState(p, seed)) {
			wantListApart(t, "TickRecs", impl.TickRecs, p, s)
		}
	}
}

// Here too the lists may be of one memory.
func TestPromise19TickRecsOfSharedMemory(t *testing.T) {
	numbers := []int64{0, 1, 3, -7, -7}
	p := smallPlan()
	for _, s := range tickStates(p) {
		p.Mins, s.Locks = numbers[:3], numbers[:3]
		list, _ := impl.TickRecs(p, s)
		overwriteWith(list, impl.Rec{Kind: -99, A: -99, B: -99})
	}
	if !alike(numbers, 0, 1, 3, -7, -7) {
		t.Errorf("the numbers are %v now", numbers)
	}
}

// bootStates are states of p in each phase, whose pods are in all states, some
// before any probe, some behind the last one.
func bootStates(p impl.Plan) []impl.State {
	list := []impl.State{}
	for phase := range int64(9) {
		for _, probes := range []int64{0, 1, p.Tries - 1, p.Tries} {
			s := probed(p, phase, probes, probes)
			s.Boot, s.Locks = probes%3, []int64{phase % 4, 4 + phase%4}
			for pod := range s.Pods {
				s.Pods[pod].State = (phase + int64(pod)) % 7
			}
			for mount := range s.Mounts {
				s.Mounts[mount].Held = (phase+int64(mount))%3 > 0
			}
			list = append(list, s)
		}
	}
	return list
}

func wantBootsApart(t *testing.T, p impl.Plan, s impl.State, ids []int64) {
	t.Helper()
	for _, id := range ids {
		wantListApart(t, "BootRecs", func(p impl.Plan, s impl.State) ([]impl.Rec, int64) {
			return impl.BootRecs(p, s, id)
		}, p, s)
	}
	for _, good := range []bool{true, false} {
		wantListApart(t, "ProbeRecs", func(p impl.Plan, s impl.State) ([]impl.Rec, int64) {
			return impl.ProbeRecs(p, s, good)
		}, p, s)
	}
}

func TestPromise19BootRecsAndProbeRecs(t *testing.T) {
	for _, p := range oddPlans() {
		for _, s := range append(oddStates(), inPhase(busyState(), impl.PhBooted), inPhase(edgeState(), impl.PhChecking)) {
			wantBootsApart(t, p, s, []int64{math.MinInt64, 1, 7, math.MaxInt64})
		}
	}
	ids := slices.Concat(someNumbers(), fieldEdges(), wrongFields())
	for _, p := range []impl.Plan{{}, {Probes: 1, Tries: 1}, inBands(0, 5, 5), mountsPlan(-1, 0, 1), smallPlan(), fullPlan()} {
		for _, s := range append(oddStates(), bootStates(p)...) {
			wantBootsApart(t, p, s, ids)
		}
	}
	for seed := range int64(100) {
		p := madePlan(seed)
		for _, s := range append(bootStates(p), madeState(p, seed)) {
			wantBootsApart(t, p, s, []int64{-1, 0, 1, 2, s.Boot, 1000000, 1000001})
		}
	}
}

// Here too the lists may be of one memory.
func TestPromise19BootRecsOfSharedMemory(t *testing.T) {
	numbers := []int64{0, 1, 3, -7, -7}
	p := smallPlan()
	for _, s := range bootStates(p) {
		p.Mins, s.Locks = numbers[:3], numbers[:3]
		list, _ := impl.BootRecs(p, s, 5)
		overwriteWith(list, impl.Rec{Kind: -99, A: -99, B: -99})
		list, _ = impl.ProbeRecs(p, s, true)
		overwriteWith(list, impl.Rec{Kind: -99, A: -99, B: -99})
	}
	if !alike(numbers, 0, 1, 3, -7, -7) {
		t.Errorf("the numbers are %v now", numbers)
	}
}

// What OrderOk is given and answers are no memory that could be shared.
func TestPromise19OrderOk(t *testing.T) {
	for _, kind := range orderNumbers() {
		for _, a := range orderNumbers() {
			quiet(t, "OrderOk", func() {
				for _, b := range orderNumbers() {
					o := impl.Order{Kind: kind, A: a, B: b}
					if right := plainOrder(o); impl.OrderOk(o) != right || impl.OrderOk(o) != right {
						t.Fatalf("OrderOk of %+v is not %v", o, right)
					}
				}
			})
		}
	}
}

func wantPlannedApart(t *testing.T, p impl.Plan, s impl.State, these ...impl.Order) {
	t.Helper()
	for _, o := range these {
		wantListApart(t, "Planned", func(p impl.Plan, s impl.State) ([]impl.Rec, int64) {
			return impl.Planned(p, s, o)
		}, p, s)
	}
}

// someOrders are one of each kind, and some that are not right.
func someOrders() []impl.Order {
	list := []impl.Order{
		{Kind: impl.OdBusy, A: 3, B: 4}, {Kind: impl.OdProbe, A: 1}, {Kind: impl.OdProbe, A: 2}, {Kind: impl.OdCordon, A: 1},
		{Kind: impl.OdEvict, A: math.MinInt64}, {Kind: impl.OdBusy, A: math.MaxInt64, B: math.MinInt64}, {Kind: math.MinInt64},
	}
	for kind := int64(-1); kind <= 15; kind++ {
		list = append(list, impl.Order{Kind: kind}, impl.Order{Kind: kind, A: 1})
	}
	return list
}

func TestPromise19Planned(t *testing.T) {
	few := []impl.Order{{Kind: impl.OdCordon}, {Kind: impl.OdTick}, {Kind: impl.OdBoot, A: 5}, {Kind: math.MaxInt64, A: -1, B: -1}}
	for _, p := range oddPlans() {
		for _, s := range append(oddStates(), readyState(impl.PhDraining)) {
			wantPlannedApart(t, p, s, few...)
		}
	}
	for _, p := range []impl.Plan{{}, {Probes: 1, Tries: 1}, groupsPlan([]int64{0, 1}), mountsPlan(-1, 0, 1), smallPlan(), fullPlan()} {
		for _, s := range slices.Concat(oddStates(), tickStates(p), bootStates(p), []impl.State{draining(p), ended(p)}) {
			wantPlannedApart(t, p, s, someOrders()...)
		}
	}
	for phase := range int64(9) {
		wantPlannedApart(t, smallPlan(), readyState(phase), someOrders()...)
		for _, c := range readyCommands() {
			wantPlannedApart(t, smallPlan(), readyState(phase), orderOf(c.said))
		}
	}
	for seed := range int64(40) {
		p := madePlan(seed)
		wantPlannedApart(t, p, madeState(p, seed), someOrders()...)
		wantPlannedApart(t, p, draining(p), someOrders()...)
	}
}

// Here too the lists may be of one memory.
func TestPromise19PlannedOfSharedMemory(t *testing.T) {
	numbers := []int64{0, 1, 3, -7, -7}
	p := smallPlan()
	for _, s := range slices.Concat(tickStates(p), bootStates(p), []impl.State{readyState(impl.PhDraining)}) {
		p.Mins, s.Locks = numbers[:3], numbers[:3]
		for _, o := range someOrders() {
			list, _ := impl.Planned(p, s, o)
			overwriteWith(list, impl.Rec{Kind: -99, A: -99, B: -99})
		}
	}
	if !alike(numbers, 0, 1, 3, -7, -7) {
		t.Errorf("the numbers are %v now", numbers)
	}
}

func snapped(p impl.Plan, s impl.State) ([]impl.Rec, int64) {
	return impl.SnapOf(p, s), impl.CdOk
}

func TestPromise19SnapOf(t *testing.T) {
	for _, p := range oddPlans() {
		for _, s := range append(oddStates(), readyState(impl.PhDraining)) {
			wantListApart(t, "SnapOf", snapped, p, s)
		}
	}
	for _, p := range []impl.Plan{{}, {Probes: 1, Tries: 1}, inBands(0, 5, 5), mountsPlan(-1, 0, 1), smallPlan(), fullPlan()} {
		for _, s := range slices.Concat(oddStates(), tickStates(p), bootStates(p), []impl.State{draining(p), ended(p)}) {
			wantListApart(t, "SnapOf", snapped, p, s)
		}
	}
	for seed := range int64(100) {
		p := madePlan(seed)
		for _, s := range append(bootStates(p), madeState(p, seed), plainNew(p)) {
			wantListApart(t, "SnapOf", snapped, p, s)
		}
	}
}

// Here too the lists may be of one memory.
func TestPromise19SnapOfSharedMemory(t *testing.T) {
	numbers := []int64{0, 1, 3, -7, -7}
	p := smallPlan()
	for _, s := range slices.Concat(tickStates(p), bootStates(p)) {
		p.Mins, s.Locks = numbers[:3], numbers[:3]
		overwriteWith(impl.SnapOf(p, s), impl.Rec{Kind: -99, A: -99, B: -99})
	}
	if !alike(numbers, 0, 1, 3, -7, -7) {
		t.Errorf("the numbers are %v now", numbers)
	}
}

// What SameState answers is no memory that could be shared.
func TestPromise19SameState(t *testing.T) {
	states := append(oddStates(), sameStates()...)
	for _, oddOne := range states {
		for _, oddTwo := range states {
			a, b := roomyState(oddOne), roomyState(oddTwo)
			quiet(t, "SameState", func() {
				same := equalStates(oddOne, oddTwo)
				if impl.SameState(a, b) != same || impl.SameState(oddOne, b) != same || impl.SameState(a, oddTwo) != same {
					t.Fatalf("SameState of %+v and %+v is not %v", oddOne, oddTwo, same)
				}
			})
			if !sameStateToTheEnd(a, roomyState(oddOne)) || !sameStateToTheEnd(b, roomyState(oddTwo)) {
				t.Fatal("SameState writes into an argument")
			}
		}
	}
}

// Nor do two states that share all their lists change, or one that stands on
// both sides.
func TestPromise19SameStateOfSharedMemory(t *testing.T) {
	for _, odd := range append(oddStates(), sameStates()...) {
		s := roomyState(odd)
		other := s
		other.Clock++
		if !impl.SameState(s, s) || impl.SameState(s, other) || impl.SameState(other, s) {
			t.Errorf("SameState of %+v answers otherwise where memory is shared", odd)
		}
		if !sameStateToTheEnd(s, roomyState(odd)) {
			t.Fatal("SameState writes into an argument")
		}
	}
}

// roomyAgent is a with lists of its own, each with spare room behind it that is
// filled with what no agent has.
func roomyAgent(a impl.Agent) impl.Agent {
	return impl.Agent{Plan: roomyPlan(a.Plan), State: roomyState(a.State), Store: roomy(a.Store, 77)}
}

// sameAgentToTheEnd looks at the spare room behind the lists too.
func sameAgentToTheEnd(a, b impl.Agent) bool {
	return samePlan(a.Plan, b.Plan) && sameStateToTheEnd(a.State, b.State) && sameToTheEnd(a.Store, b.Store)
}

// overwriteAgent writes into all lists of an answer, into each something of its
// own: no two of them share memory, or one of those of one type is another then.
func overwriteAgent(t *testing.T, name string, a impl.Agent) {
	t.Helper()
	overwriteWith(a.Plan.Pods, impl.Pod{Group: -99, Band: -99, Grace: -99, Hook: -99})
	overwriteWith(a.Plan.Mounts, impl.Mount{Pod: -99, Parent: -99})
	overwriteWith(a.Plan.Devices, impl.Device{Mount: -99})
	overwriteWith(a.Store, 99)
	overwriteWith(a.Plan.Mins, -98)
	overwriteState(a.State)
	if slices.ContainsFunc(a.Plan.Mins, func(n int64) bool { return n != -98 }) {
		t.Fatalf("%s: Locks share memory with Mins", name)
	}
	overwriteWith(a.Plan.Mins, -98)
	if slices.ContainsFunc(a.State.Locks, func(n int64) bool { return n != -99 }) {
		t.Fatalf("%s: Mins share memory with Locks", name)
	}
}

// wantAgentApart calls one that answers an agent and a code three times: it does
// not panic, answers alike, and what is written into an answer is seen neither
// in an argument nor in another answer. Beside a code that is none of these
// there is the zero agent.
func wantAgentApart(t *testing.T, name string, call func(impl.Agent) (impl.Agent, int64), odd impl.Agent, zero int64) {
	t.Helper()
	a := roomyAgent(odd)
	quiet(t, name, func() {
		once, code := call(a)
		twice, again := call(odd)
		before := ownAgent(twice)
		if code != again || !equalAgents(once, before) || code == zero && !equalAgents(once, impl.Agent{}) && !impl.AgentOk(odd) {
			t.Fatalf("%s answers %+v, %d, then %+v, %d, of %+v", name, once, code, before, again, odd)
		}
		overwriteAgent(t, name, once)
		if !equalAgents(twice, before) {
			t.Fatalf("two answers of %s share memory", name)
		}
		if third, code := call(a); code != again || !equalAgents(third, before) {
			t.Fatalf("%s answers %+v, %d the third time, not %+v, %d", name, third, code, before, again)
		}
	})
	if !sameAgentToTheEnd(a, roomyAgent(odd)) {
		t.Fatalf("%s writes into an argument, or its answer shares memory with one", name)
	}
}

// oddAgents are agents, and ones that are wrong in one way or many.
func oddAgents(t *testing.T) []impl.Agent {
	t.Helper()
	list := append(manyAgents(t), spentAgents(t)...)
	for _, a := range notAgents(t) {
		list = append(list, a)
	}
	stores, states := oddStores(), oddStates()
	for i, p := range oddPlans() {
		list = append(list, impl.Agent{Plan: p, State: states[i%len(states)], Store: stores[i%len(stores)]}, impl.Agent{Plan: p, State: plainNew(p)})
	}
	for i, s := range states {
		list = append(list, impl.Agent{Plan: smallPlan(), State: s}, impl.Agent{Plan: fullPlan(), State: s, Store: stores[i]})
	}
	for i, b := range stores {
		if i%7 == 0 {
			list = append(list, impl.Agent{Plan: smallPlan(), State: plainNew(smallPlan()), Store: b}, impl.Agent{Plan: fullPlan(), State: edgeState(), Store: b})
		}
	}
	return list
}

func TestPromise19AgentOk(t *testing.T) {
	for _, odd := range oddAgents(t) {
		a := roomyAgent(odd)
		quiet(t, "AgentOk", func() {
			if right := impl.AgentOk(odd); impl.AgentOk(a) != right || impl.AgentOk(a) != right {
				t.Errorf("AgentOk answers otherwise the second time of %+v", odd)
			}
		})
		if !sameAgentToTheEnd(a, roomyAgent(odd)) {
			t.Fatal("AgentOk writes into its argument")
		}
	}
}

func TestPromise19NewAgent(t *testing.T) {
	for _, p := range append(oddPlans(), rightPlans()...) {
		wantAgentApart(t, "NewAgent", func(a impl.Agent) (impl.Agent, int64) {
			made, ok := impl.NewAgent(a.Plan)
			if !ok {
				return made, -1
			}
			return made, 0
		}, impl.Agent{Plan: p}, -1)
	}
}

func TestPromise19Obeyed(t *testing.T) {
	few := []impl.Order{{Kind: impl.OdCordon}, {Kind: impl.OdTick}, {Kind: impl.OdBoot, A: 5}, {Kind: math.MaxInt64, A: -1, B: -1}}
	want := func(a impl.Agent, these ...impl.Order) {
		t.Helper()
		for _, o := range these {
			wantAgentApart(t, "Obeyed", func(a impl.Agent) (impl.Agent, int64) { return impl.Obeyed(a, o) }, a, impl.CdBad)
		}
	}
	for _, a := range oddAgents(t) {
		want(a, few...)
	}
	for _, a := range append(manyAgents(t), spentAgents(t)...) {
		want(a, someOrders()...)
		want(agentWith(t, a.Plan, a.State, 1200), someOrders()...)
	}
	for phase := range int64(9) {
		for _, c := range readyCommands() {
			want(readyAgent(t, phase), orderOf(c.said))
		}
	}
	for _, c := range refusedOrders() {
		want(agentIn(t, smallPlan(), c.s), c.o)
	}
}

func TestPromise19TornIn(t *testing.T) {
	agents := append(oddAgents(t), agentWith(t, smallPlan(), readyState(2), 1200), agentWith(t, fullPlan(), edgeState(), 1195))
	for i, odd := range agents {
		for _, o := range []impl.Order{{Kind: impl.OdTick}, {Kind: impl.OdBoot, A: 5}, {Kind: impl.OdCordon}, {Kind: impl.OdProbe}, {Kind: math.MaxInt64, A: -1}} {
			for _, k := range []int64{math.MinInt64, -1, 0, 1, int64(i) % 9, 12, math.MaxInt64} {
				a := roomyAgent(odd)
				quiet(t, "TornIn", func() {
					once, twice := impl.TornIn(a, o, k), impl.TornIn(odd, o, k)
					before := slices.Clone(twice)
					overwriteWith(once, 99)
					if !slices.Equal(twice, before) || !slices.Equal(impl.TornIn(a, o, k), before) {
						t.Fatalf("two answers of TornIn of %+v at %d share memory, or are not alike", o, k)
					}
				})
				if !sameAgentToTheEnd(a, roomyAgent(odd)) {
					t.Fatal("TornIn writes into an argument, or its answer shares memory with one")
				}
			}
		}
	}
}

func TestPromise19Recovered(t *testing.T) {
	recovered := func(a impl.Agent) (impl.Agent, int64) {
		made, ok := impl.Recovered(a.Plan, a.Store)
		if !ok {
			if !equalAgents(made, impl.Agent{}) {
				t.Fatalf("nobody comes back, but %+v", made)
			}
			return made, -1
		}
		return made, 0
	}
	for _, a := range oddAgents(t) {
		wantAgentApart(t, "Recovered", recovered, a, -1)
	}
	for i, b := range oddStores() {
		for _, p := range []impl.Plan{smallPlan(), fullPlan(), {Probes: 1, Tries: 1}, {}} {
			if i%5 == 0 || len(b) < 1000 && i%2 == 0 {
				wantAgentApart(t, "Recovered", recovered, impl.Agent{Plan: p, Store: b}, -1)
			}
		}
	}
}

// The lists of an agent may be of one memory too: it stays, and no answer is of
// it.
func TestPromise19AgentsOfSharedMemory(t *testing.T) {
	numbers := []int64{0, 1, 3, -7, -7}
	p, s := smallPlan(), readyState(impl.PhDraining)
	p.Mins, s.Locks = numbers[:3], numbers[:3]
	for _, a := range []impl.Agent{agentIn(t, p, s), agentWith(t, p, s, 1200)} {
		a.Plan.Mins, a.State.Locks = numbers[:3], numbers[:3]
		wantAgentOk(t, "shared", true, a)
		store := slices.Clone(a.Store)
		for _, o := range append(someOrders(), impl.Order{Kind: impl.OdLock, A: 2}, impl.Order{Kind: impl.OdUnlock, A: 1}, impl.Order{Kind: impl.OdBoot, A: 5}) {
			made, _ := impl.Obeyed(a, o)
			overwriteAgent(t, "Obeyed", made)
			overwriteWith(impl.TornIn(a, o, 3), 99)
		}
		back, _ := impl.Recovered(a.Plan, a.Store)
		overwriteAgent(t, "Recovered", back)
		new, _ := impl.NewAgent(a.Plan)
		overwriteAgent(t, "NewAgent", new)
		if !alike(numbers, 0, 1, 3, -7, -7) || !slices.Equal(a.Store, store) {
			t.Errorf("the numbers are %v now, and the store %v", numbers, a.Store)
		}
	}
}
