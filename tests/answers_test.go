package tests

import (
	"math"
	"slices"
	"testing"

	"loop.example/g00767/impl"
)

// roomyPlan is p with lists of its own, each with spare room behind it that is
// filled with what no plan has, so that a write into it is seen.
func roomyPlan(p impl.Plan) impl.Plan {
	p.Pods = roomy(p.Pods, impl.Pod{Group: -7, Band: -7, Grace: -7, Hook: -7})
	p.Mins = roomy(p.Mins, -7)
	p.Mounts = roomy(p.Mounts, impl.Mount{Pod: -7, Parent: -7})
	p.Devices = roomy(p.Devices, impl.Device{Mount: -7})
	return p
}

func roomy[T any](list []T, filler T) []T {
	whole := slices.Clone(list)
	for range 5 {
		whole = append(whole, filler)
	}
	return whole[:len(list)]
}

// samePlan looks at the spare room behind the lists too.
func samePlan(a, b impl.Plan) bool {
	return sameToTheEnd(a.Pods, b.Pods) && sameToTheEnd(a.Mins, b.Mins) &&
		sameToTheEnd(a.Mounts, b.Mounts) && sameToTheEnd(a.Devices, b.Devices) &&
		a.LockMax == b.LockMax && a.Probes == b.Probes && a.Tries == b.Tries
}

func sameToTheEnd[T comparable](a, b []T) bool {
	return len(a) == len(b) && slices.Equal(a[:len(a)+5], b[:len(b)+5])
}

// oddPlans are right ones and ones that are wrong in one way or many.
func oddPlans() []impl.Plan {
	list := []impl.Plan{{}, {Probes: 1, Tries: 1}, smallPlan(), fullPlan()}
	fields := []func(p *impl.Plan) *int64{
		func(p *impl.Plan) *int64 { return &p.Pods[2].Group },
		func(p *impl.Plan) *int64 { return &p.Pods[0].Band },
		func(p *impl.Plan) *int64 { return &p.Pods[1].Grace },
		func(p *impl.Plan) *int64 { return &p.Pods[1].Hook },
		func(p *impl.Plan) *int64 { return &p.Mins[0] },
		func(p *impl.Plan) *int64 { return &p.Mounts[3].Pod },
		func(p *impl.Plan) *int64 { return &p.Mounts[3].Parent },
		func(p *impl.Plan) *int64 { return &p.Devices[0].Mount },
		func(p *impl.Plan) *int64 { return &p.LockMax },
		func(p *impl.Plan) *int64 { return &p.Probes },
		func(p *impl.Plan) *int64 { return &p.Tries },
	}
	for _, field := range fields {
		for _, n := range someNumbers() {
			p := smallPlan()
			*field(&p) = n
			list = append(list, p)
		}
	}
	n := int64(math.MinInt64)
	long := impl.Plan{LockMax: n, Probes: n, Tries: n}
	for range 1000 {
		long.Pods = append(long.Pods, impl.Pod{Group: n, Band: n, Grace: n, Hook: n})
		long.Mins = append(long.Mins, n)
		long.Mounts = append(long.Mounts, impl.Mount{Pod: n, Parent: n})
		long.Devices = append(long.Devices, impl.Device{Mount: n})
	}
	return append(list, long)
}

// listCalls are the functions of chapters 1 and 2 that answer a list.
func listCalls() map[string]func(impl.Plan, int64) []int64 {
	return map[string]func(impl.Plan, int64) []int64{
		"PodsIn": impl.PodsIn, "ChildrenOf": impl.ChildrenOf, "MountsOf": impl.MountsOf,
		"BandsOf": func(p impl.Plan, _ int64) []int64 { return impl.BandsOf(p) },
		"PodsOf":  impl.PodsOf,
	}
}

// numberCalls are those that answer a number, or a flag as 1 or 0.
func numberCalls() map[string]func(impl.Plan, int64) int64 {
	return map[string]func(impl.Plan, int64) int64{
		"PlanOk": func(p impl.Plan, _ int64) int64 {
			if impl.PlanOk(p) {
				return 1
			}
			return 0
		},
		"NextBand": impl.NextBand, "BandTime": impl.BandTime,
		"WholeTime": func(p impl.Plan, _ int64) int64 { return impl.WholeTime(p) },
	}
}

// quiet does what it is given, and fails where that panics.
func quiet(t *testing.T, name string, do func()) {
	t.Helper()
	defer func() {
		if r := recover(); r != nil {
			t.Errorf("%s panics: %v", name, r)
		}
	}()
	do()
}

func TestPromise19NeverPanicsNorWrites(t *testing.T) {
	for _, odd := range oddPlans() {
		p := roomyPlan(odd)
		for _, n := range someNumbers() {
			for name, call := range listCalls() {
				quiet(t, name, func() { call(p, n) })
			}
			for name, call := range numberCalls() {
				quiet(t, name, func() { call(p, n) })
			}
		}
		if !samePlan(p, roomyPlan(odd)) {
			t.Fatalf("the argument is another one now: %v, it was %v", p, odd)
		}
	}
}

func TestPromise19AnswersAreNewMemory(t *testing.T) {
	for _, odd := range oddPlans() {
		p := roomyPlan(odd)
		for name, call := range listCalls() {
			for _, n := range someNumbers() {
				once, twice := call(p, n), call(p, n)
				before := slices.Clone(twice)
				overwrite(once)
				if !slices.Equal(twice, before) || !slices.Equal(call(p, n), before) {
					t.Fatalf("%s of %d: two answers share memory", name, n)
				}
				if !samePlan(p, roomyPlan(odd)) {
					t.Fatalf("%s of %d shares memory with its argument", name, n)
				}
			}
		}
	}
}

// overwrite writes into a list and into all the room behind it.
func overwrite(list []int64) {
	list = list[:cap(list)]
	for i := range list {
		list[i] = -99
	}
}

func TestPromise19AnswersTheSameAgain(t *testing.T) {
	for _, p := range oddPlans() {
		for _, n := range someNumbers() {
			for name, call := range listCalls() {
				if !slices.Equal(call(p, n), call(roomyPlan(p), n)) {
					t.Fatalf("%s of %d answers otherwise the second time", name, n)
				}
			}
			for name, call := range numberCalls() {
				if call(p, n) != call(roomyPlan(p), n) {
					t.Fatalf("%s of %d answers otherwise the second time", name, n)
				}
			}
		}
	}
}
