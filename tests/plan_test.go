package tests

import (
	"math"
	"testing"

	"loop.example/g00767/impl"
)

// smallPlan is an ordinary plan: group 0 has pods 0 and 2, group 1 has pod 1,
// group 2 has none.
func smallPlan() impl.Plan {
	return impl.Plan{
		Pods: []impl.Pod{
			{Group: 0, Band: 1, Grace: 20, Hook: 3},
			{Group: 1, Band: 0, Grace: 0, Hook: 0},
			{Group: 0, Band: 4, Grace: 7, Hook: 0},
		},
		Mins: []int64{1, 0, 3},
		Mounts: []impl.Mount{
			{Pod: 2, Parent: -1},
			{Pod: 0, Parent: 0},
			{Pod: 2, Parent: -1},
			{Pod: 0, Parent: 0},
			{Pod: 0, Parent: 3},
		},
		Devices: []impl.Device{{Mount: 4}, {Mount: 0}, {Mount: 4}},
		LockMax: 9,
		Probes:  2,
		Tries:   5,
	}
}

// fullPlan meets every limit exactly.
func fullPlan() impl.Plan {
	p := impl.Plan{LockMax: 500, Probes: 9, Tries: 30}
	for range 4 {
		p.Mins = append(p.Mins, 12)
	}
	for i := range int64(12) {
		p.Pods = append(p.Pods, impl.Pod{Group: 3, Band: 5, Grace: 500, Hook: 500})
		p.Mounts = append(p.Mounts, impl.Mount{Pod: 11, Parent: i - 1})
		p.Devices = append(p.Devices, impl.Device{Mount: 11})
	}
	return p
}

func alike(a []int64, b ...int64) bool {
	if len(a) != len(b) {
		return false
	}
	for i := range a {
		if a[i] != b[i] {
			return false
		}
	}
	return true
}

// someNumbers are those near the edges of what a plan can count.
func someNumbers() []int64 {
	list := []int64{math.MinInt64, math.MinInt64 + 1, -1 << 32, 1 << 32, math.MaxInt64 - 1, math.MaxInt64}
	for n := int64(-3); n <= 14; n++ {
		list = append(list, n)
	}
	return list
}

// wantNothing checks that a plan that is not right is refused, and answers
// nothing, whatever is asked.
func wantNothing(t *testing.T, p impl.Plan) {
	t.Helper()
	if impl.PlanOk(p) {
		t.Errorf("right, but ought not to be: %v", p)
	}
	for _, n := range someNumbers() {
		if got := impl.PodsIn(p, n); len(got) != 0 {
			t.Errorf("PodsIn %d of a wrong plan: %v", n, got)
		}
		if got := impl.ChildrenOf(p, n); len(got) != 0 {
			t.Errorf("ChildrenOf %d of a wrong plan: %v", n, got)
		}
		if got := impl.MountsOf(p, n); len(got) != 0 {
			t.Errorf("MountsOf %d of a wrong plan: %v", n, got)
		}
	}
}

func TestPromise1ListsOfAnOrdinaryPlan(t *testing.T) {
	p := smallPlan()
	if !impl.PlanOk(p) {
		t.Fatal("an ordinary plan is right")
	}
	for _, c := range []struct {
		name string
		got  []int64
		want []int64
	}{
		{"pods in 0", impl.PodsIn(p, 0), []int64{0, 2}},
		{"pods in 1", impl.PodsIn(p, 1), []int64{1}},
		{"pods in an empty group", impl.PodsIn(p, 2), nil},
		{"pods in a group past the end", impl.PodsIn(p, 3), nil},
		{"pods in a group below 0", impl.PodsIn(p, -1), nil},
		{"children of none", impl.ChildrenOf(p, -1), []int64{0, 2}},
		{"children of 0", impl.ChildrenOf(p, 0), []int64{1, 3}},
		{"children of a mount without any", impl.ChildrenOf(p, 1), nil},
		{"children of 3", impl.ChildrenOf(p, 3), []int64{4}},
		{"children of a mount past the end", impl.ChildrenOf(p, 5), nil},
		{"children of -2", impl.ChildrenOf(p, -2), nil},
		{"mounts of 0", impl.MountsOf(p, 0), []int64{1, 3, 4}},
		{"mounts of a pod without any", impl.MountsOf(p, 1), nil},
		{"mounts of 2", impl.MountsOf(p, 2), []int64{0, 2}},
		{"mounts of a pod past the end", impl.MountsOf(p, 3), nil},
		{"mounts of a pod below 0", impl.MountsOf(p, -1), nil},
	} {
		if !alike(c.got, c.want...) {
			t.Errorf("%s: %v, not %v", c.name, c.got, c.want)
		}
	}
}

func TestPromise1FullPlan(t *testing.T) {
	p := fullPlan()
	if !impl.PlanOk(p) {
		t.Fatal("a plan at all its limits is right")
	}
	all := []int64{0, 1, 2, 3, 4, 5, 6, 7, 8, 9, 10, 11}
	if got := impl.PodsIn(p, 3); !alike(got, all...) {
		t.Error("PodsIn", got)
	}
	if got := impl.MountsOf(p, 11); !alike(got, all...) {
		t.Error("MountsOf", got)
	}
	for i := int64(-1); i < 11; i++ {
		if got := impl.ChildrenOf(p, i); !alike(got, i+1) {
			t.Error("ChildrenOf", i, got)
		}
	}
	if got := impl.ChildrenOf(p, 11); len(got) != 0 {
		t.Error("ChildrenOf the innermost", got)
	}
}

// change is one thing that is done to a plan, and whether it is right then.
type change struct {
	name  string
	do    func(p *impl.Plan)
	right bool
}

func wantChanges(t *testing.T, plan func() impl.Plan, list []change) {
	t.Helper()
	for _, c := range list {
		p := plan()
		c.do(&p)
		if impl.PlanOk(p) != c.right {
			t.Errorf("%s: PlanOk is not %v", c.name, c.right)
		}
		if !c.right {
			wantNothing(t, p)
		}
	}
}

func TestPromise1CountsPassedByOne(t *testing.T) {
	wantChanges(t, fullPlan, []change{
		{"13 pods", func(p *impl.Plan) { p.Pods = append(p.Pods, p.Pods[0]) }, false},
		{"11 pods", func(p *impl.Plan) { p.Pods = p.Pods[:11]; p.Mounts = nil; p.Devices = nil }, true},
		{"5 groups", func(p *impl.Plan) { p.Mins = append(p.Mins, 0) }, false},
		{"13 mounts", func(p *impl.Plan) { p.Mounts = append(p.Mounts, impl.Mount{Pod: 0, Parent: -1}) }, false},
		{"11 mounts", func(p *impl.Plan) { p.Mounts = p.Mounts[:11]; p.Devices = nil }, true},
		{"13 devices", func(p *impl.Plan) { p.Devices = append(p.Devices, impl.Device{Mount: 0}) }, false},
		{"11 devices", func(p *impl.Plan) { p.Devices = p.Devices[:11] }, true},
	})
}

func TestPromise1NumbersAtTheirEdges(t *testing.T) {
	for _, c := range []struct {
		name        string
		field       func(p *impl.Plan) *int64
		least, most int64
	}{
		{"Group", func(p *impl.Plan) *int64 { return &p.Pods[1].Group }, 0, 2},
		{"Band", func(p *impl.Plan) *int64 { return &p.Pods[1].Band }, 0, 5},
		{"Grace", func(p *impl.Plan) *int64 { return &p.Pods[1].Grace }, 0, 500},
		{"Hook", func(p *impl.Plan) *int64 { return &p.Pods[1].Hook }, 0, 500},
		{"Min", func(p *impl.Plan) *int64 { return &p.Mins[1] }, 0, 12},
		{"Min of a group without a pod", func(p *impl.Plan) *int64 { return &p.Mins[2] }, 0, 12},
		{"Pod of the last mount", func(p *impl.Plan) *int64 { return &p.Mounts[4].Pod }, 0, 2},
		{"Parent of the first mount", func(p *impl.Plan) *int64 { return &p.Mounts[0].Parent }, -1, -1},
		{"Parent of mount 2", func(p *impl.Plan) *int64 { return &p.Mounts[2].Parent }, -1, 1},
		{"Parent of the last mount", func(p *impl.Plan) *int64 { return &p.Mounts[4].Parent }, -1, 3},
		{"Mount of a device", func(p *impl.Plan) *int64 { return &p.Devices[1].Mount }, 0, 4},
		{"LockMax", func(p *impl.Plan) *int64 { return &p.LockMax }, 0, 500},
		{"Probes", func(p *impl.Plan) *int64 { return &p.Probes }, 1, 5},
		{"Tries", func(p *impl.Plan) *int64 { return &p.Tries }, 2, 30},
	} {
		for _, n := range append(someNumbers(), c.least-1, c.least, c.most, c.most+1) {
			p := smallPlan()
			*c.field(&p) = n
			if want := c.least <= n && n <= c.most; impl.PlanOk(p) != want {
				t.Errorf("%s of %d: PlanOk is not %v", c.name, n, want)
			} else if !want {
				wantNothing(t, p)
			}
		}
	}
}

// Each list is looked at to its end: what is wrong may be its first or its
// last.
func TestPromise1EachPlaceIsLookedAt(t *testing.T) {
	for i := range 12 {
		wantChanges(t, fullPlan, []change{
			{"a pod", func(p *impl.Plan) { p.Pods[i].Group = 4 }, false},
			{"a mount's pod", func(p *impl.Plan) { p.Mounts[i].Pod = 12 }, false},
			{"a mount in itself", func(p *impl.Plan) { p.Mounts[i].Parent = int64(i) }, false},
			{"a mount in a later one", func(p *impl.Plan) { p.Mounts[i].Parent = int64(i) + 1 }, false},
			{"a mount in none", func(p *impl.Plan) { p.Mounts[i].Parent = -1 }, true},
			{"a mount in -2", func(p *impl.Plan) { p.Mounts[i].Parent = -2 }, false},
			{"a device", func(p *impl.Plan) { p.Devices[i].Mount = 12 }, false},
			{"a min", func(p *impl.Plan) { p.Mins[i%4] = 13 }, false},
		})
	}
}

func TestPromise1ProbesAgainstTries(t *testing.T) {
	wantChanges(t, smallPlan, []change{
		{"1 of 1", func(p *impl.Plan) { p.Probes, p.Tries = 1, 1 }, true},
		{"9 of 9", func(p *impl.Plan) { p.Probes, p.Tries = 9, 9 }, true},
		{"9 of 8", func(p *impl.Plan) { p.Probes, p.Tries = 9, 8 }, false},
		{"10 of 10", func(p *impl.Plan) { p.Probes, p.Tries = 10, 10 }, false},
		{"1 of 30", func(p *impl.Plan) { p.Probes, p.Tries = 1, 30 }, true},
		{"1 of 31", func(p *impl.Plan) { p.Probes, p.Tries = 1, 31 }, false},
		{"0 of 0", func(p *impl.Plan) { p.Probes, p.Tries = 0, 0 }, false},
		{"0 of 1", func(p *impl.Plan) { p.Probes, p.Tries = 0, 1 }, false},
		{"-1 of -1", func(p *impl.Plan) { p.Probes, p.Tries = -1, -1 }, false},
	})
}

func TestPromise1EmptyAndNil(t *testing.T) {
	least := impl.Plan{Probes: 1, Tries: 1}
	empty := impl.Plan{Pods: []impl.Pod{}, Mins: []int64{}, Mounts: []impl.Mount{}, Devices: []impl.Device{}, Probes: 1, Tries: 1}
	for _, p := range []impl.Plan{least, empty} {
		if !impl.PlanOk(p) {
			t.Error("a plan of nothing is right")
		}
		for _, n := range someNumbers() {
			if len(impl.PodsIn(p, n)) != 0 || len(impl.ChildrenOf(p, n)) != 0 || len(impl.MountsOf(p, n)) != 0 {
				t.Error("there is nothing in a plan of nothing", n)
			}
		}
	}
	wantNothing(t, impl.Plan{})
	wantChanges(t, func() impl.Plan { return impl.Plan{Probes: 1, Tries: 1} }, []change{
		{"groups alone", func(p *impl.Plan) { p.Mins = []int64{0, 12} }, true},
		{"a pod without a group", func(p *impl.Plan) { p.Pods = []impl.Pod{{}} }, false},
		{"a pod and a group", func(p *impl.Plan) { p.Pods = []impl.Pod{{}}; p.Mins = []int64{0} }, true},
		{"a mount without a pod", func(p *impl.Plan) { p.Mounts = []impl.Mount{{Pod: 0, Parent: -1}} }, false},
		{"a mount of the pod -1", func(p *impl.Plan) { p.Mounts = []impl.Mount{{Pod: -1, Parent: -1}} }, false},
		{"a device without a mount", func(p *impl.Plan) { p.Devices = []impl.Device{{}} }, false},
		{"a device on the mount -1", func(p *impl.Plan) { p.Devices = []impl.Device{{Mount: -1}} }, false},
	})
}

// madePlan is a right plan that follows from seed alone.
func madePlan(seed int64) impl.Plan {
	draw := func(below int64) int64 {
		seed = (seed*1103515245 + 12345) % (1 << 31)
		return seed / 65536 % below
	}
	p := impl.Plan{LockMax: draw(501), Probes: 1 + draw(9)}
	p.Tries = p.Probes + draw(31-p.Probes)
	for range 1 + draw(4) {
		p.Mins = append(p.Mins, draw(13))
	}
	for range 1 + draw(12) {
		p.Pods = append(p.Pods, impl.Pod{Group: draw(int64(len(p.Mins))), Band: draw(6), Grace: draw(501), Hook: draw(501)})
	}
	for i := range draw(13) {
		p.Mounts = append(p.Mounts, impl.Mount{Pod: draw(int64(len(p.Pods))), Parent: draw(i+1) - 1})
	}
	for range draw(13) {
		if len(p.Mounts) > 0 {
			p.Devices = append(p.Devices, impl.Device{Mount: draw(int64(len(p.Mounts)))})
		}
	}
	return p
}

// placesOf tells of each number below count in which list of those asked from
// first to last it stands, and fails where it stands in none or in two, or a
// list does not rise.
func placesOf(t *testing.T, count int, first, last int64, ask func(int64) []int64) []int64 {
	t.Helper()
	places := make([]int64, count)
	met := make([]bool, count)
	for n := first; n <= last; n++ {
		before := int64(-1)
		for _, i := range ask(n) {
			if i <= before || i >= int64(count) || met[i] {
				t.Fatalf("%d stands in list %d behind %d, or in another one too, or is none", i, n, before)
			}
			places[i], met[i], before = n, true, i
		}
	}
	for i := range met {
		if !met[i] {
			t.Fatalf("%d stands in no list", i)
		}
	}
	return places
}

func TestPromise1EachInOne(t *testing.T) {
	for seed := range int64(300) {
		p := madePlan(seed)
		if !impl.PlanOk(p) {
			t.Fatal("a made plan is right", p)
		}
		groups := placesOf(t, len(p.Pods), 0, int64(len(p.Mins))-1, func(n int64) []int64 { return impl.PodsIn(p, n) })
		parents := placesOf(t, len(p.Mounts), -1, int64(len(p.Mounts))-1, func(n int64) []int64 { return impl.ChildrenOf(p, n) })
		users := placesOf(t, len(p.Mounts), 0, int64(len(p.Pods))-1, func(n int64) []int64 { return impl.MountsOf(p, n) })
		for i, d := range p.Pods {
			if groups[i] != d.Group {
				t.Fatal("pod", i, "is in the group", groups[i])
			}
		}
		for i, m := range p.Mounts {
			if parents[i] != m.Parent || users[i] != m.Pod || parents[i] >= int64(i) {
				t.Fatal("mount", i, "lies in", parents[i], "and is used by", users[i])
			}
		}
	}
}
