package tests

import (
	"math"
	"slices"
	"testing"

	"loop.example/g00767/impl"
)

// busyState is a right state of smallPlan, in the middle of things: none of its
// numbers stands at a limit, so that each can be moved alone.
func busyState() impl.State {
	return impl.State{
		Phase: impl.PhShutting, Cordon: true, Clock: 40, Boot: 7, Band: 1, LockBy: 45,
		Pods: []impl.PodAt{
			{State: impl.PdTerm, Since: 30},
			{State: impl.PdStopped, Since: 12},
			{State: impl.PdRunning},
		},
		Mounts:  []impl.MountAt{{Held: true}, {}, {Held: true, Busy: 2}, {Held: true}, {}},
		Devices: []bool{false, true, true},
		Locks:   []int64{1, 4, 6},
		Good:    2, Probes: 3,
	}
}

// edgeState is a right state of fullPlan that meets its limits exactly.
func edgeState() impl.State {
	s := impl.State{
		Phase: impl.PhFailed, Cordon: true, Clock: 1000000, Boot: 1000000, Band: 6, LockBy: 1000000,
		Locks: []int64{0, 1, 2, 3, 4, 5, 6, 7}, Good: 30, Probes: 30,
	}
	for range 12 {
		s.Pods = append(s.Pods, impl.PodAt{State: impl.PdEvicted, Since: 1000000})
		s.Mounts = append(s.Mounts, impl.MountAt{Held: true, Busy: 5})
		s.Devices = append(s.Devices, true)
	}
	return s
}

func ownState(s impl.State) impl.State {
	s.Pods, s.Mounts = slices.Clone(s.Pods), slices.Clone(s.Mounts)
	s.Devices, s.Locks = slices.Clone(s.Devices), slices.Clone(s.Locks)
	return s
}

func equalStates(a, b impl.State) bool {
	return a.Phase == b.Phase && a.Cordon == b.Cordon && a.Clock == b.Clock && a.Boot == b.Boot &&
		a.Band == b.Band && a.LockBy == b.LockBy && a.Good == b.Good && a.Probes == b.Probes &&
		slices.Equal(a.Pods, b.Pods) && slices.Equal(a.Mounts, b.Mounts) &&
		slices.Equal(a.Devices, b.Devices) && slices.Equal(a.Locks, b.Locks)
}

// plainNew is the new state as the document tells of it, whether p is right or
// not.
func plainNew(p impl.Plan) impl.State {
	return impl.State{
		Phase:   0,
		Pods:    slices.Repeat([]impl.PodAt{{State: 0, Since: 0}}, len(p.Pods)),
		Mounts:  slices.Repeat([]impl.MountAt{{Held: true, Busy: 0}}, len(p.Mounts)),
		Devices: slices.Repeat([]bool{true}, len(p.Devices)),
	}
}

func wantState(t *testing.T, name string, p impl.Plan, s impl.State, right bool) {
	t.Helper()
	if impl.StateOk(p, s) != right {
		t.Errorf("%s: StateOk is not %v of %+v", name, right, s)
	}
}

// stateChange is one thing that is done to a state, and whether it is right
// then.
type stateChange struct {
	name  string
	do    func(s *impl.State)
	right bool
}

func wantStateChanges(t *testing.T, p impl.Plan, from impl.State, list []stateChange) {
	t.Helper()
	wantState(t, "as it was", p, from, true)
	for _, c := range list {
		s := ownState(from)
		c.do(&s)
		wantState(t, c.name, p, s, c.right)
	}
}

// rightPlans are of many sizes, some without mounts and devices, or without
// anything.
func rightPlans() []impl.Plan {
	bare := smallPlan()
	bare.Mounts, bare.Devices = nil, nil
	mounted := smallPlan()
	mounted.Devices = []impl.Device{}
	list := []impl.Plan{{Probes: 1, Tries: 1}, {Mins: []int64{1, 2}, Probes: 9, Tries: 30}, bare, mounted, smallPlan(), fullPlan(), fullBands()}
	for seed := range int64(300) {
		list = append(list, madePlan(seed))
	}
	return list
}

func TestPromise5NumbersAndLimits(t *testing.T) {
	phases := []int64{
		impl.PhIdle, impl.PhCordoned, impl.PhDraining, impl.PhShutting, impl.PhReleasing,
		impl.PhReboot, impl.PhBooted, impl.PhChecking, impl.PhFailed,
	}
	if !alike(phases, 0, 1, 2, 3, 4, 5, 6, 7, 8) {
		t.Error("the phases are", phases)
	}
	states := []int64{
		impl.PdRunning, impl.PdHook, impl.PdTerm, impl.PdKill, impl.PdStopped, impl.PdFailed, impl.PdEvicted,
	}
	if !alike(states, 0, 1, 2, 3, 4, 5, 6) {
		t.Error("the states of a pod are", states)
	}
	if impl.MaxLocks != 8 || impl.MaxBusy != 5 {
		t.Error("the limits are", impl.MaxLocks, impl.MaxBusy)
	}
}

func TestPromise5ANewStateIsRight(t *testing.T) {
	for _, p := range rightPlans() {
		s := impl.NewState(p)
		if want := plainNew(p); !equalStates(s, want) {
			t.Errorf("NewState of %+v is %+v, not %+v", p, s, want)
		}
		wantState(t, "a new one", p, s, true)
		all := []int64{}
		for i := range p.Pods {
			all = append(all, int64(i))
		}
		if got := impl.LiveIn(s); !alike(got, all...) {
			t.Errorf("LiveIn a new state of %d pods are %v", len(p.Pods), got)
		}
	}
}

func TestPromise5NoNewStateOfAWrongPlan(t *testing.T) {
	for name, spoil := range wrongPlans() {
		p := smallPlan()
		spoil(&p)
		if s := impl.NewState(p); !equalStates(s, impl.State{}) {
			t.Errorf("%s: NewState is %+v", name, s)
		}
	}
}

// A state that fits a plan is none where the plan is not right.
func TestPromise5NoStateOfAWrongPlan(t *testing.T) {
	for name, spoil := range wrongPlans() {
		p := smallPlan()
		wantState(t, "ahead of "+name, p, busyState(), true)
		spoil(&p)
		wantState(t, name+", one that would fit", p, plainNew(p), false)
		wantState(t, name+", one that did fit", p, busyState(), false)
		wantState(t, name+", the zero state", p, impl.State{}, false)
	}
}

func TestPromise5EmptyAndNil(t *testing.T) {
	least := impl.Plan{Probes: 1, Tries: 1}
	empty := impl.Plan{Pods: []impl.Pod{}, Mounts: []impl.Mount{}, Devices: []impl.Device{}, Probes: 1, Tries: 1}
	for _, p := range []impl.Plan{least, empty} {
		wantStateChanges(t, p, impl.State{}, []stateChange{
			{"empty lists", func(s *impl.State) {
				s.Pods, s.Mounts, s.Devices, s.Locks = []impl.PodAt{}, []impl.MountAt{}, []bool{}, []int64{}
			}, true},
			{"a pod", func(s *impl.State) { s.Pods = make([]impl.PodAt, 1) }, false},
			{"a mount", func(s *impl.State) { s.Mounts = make([]impl.MountAt, 1) }, false},
			{"a device", func(s *impl.State) { s.Devices = make([]bool, 1) }, false},
			{"a lock", func(s *impl.State) { s.Locks = make([]int64, 1) }, true},
			{"a band", func(s *impl.State) { s.Band = 6 }, true},
		})
	}
}

func TestPromise5FewerAndMore(t *testing.T) {
	for _, c := range []struct {
		plan impl.Plan
		from impl.State
	}{{smallPlan(), busyState()}, {smallPlan(), plainNew(smallPlan())}, {fullPlan(), edgeState()}} {
		wantStateChanges(t, c.plan, c.from, []stateChange{
			{"a pod fewer", func(s *impl.State) { s.Pods = s.Pods[1:] }, false},
			{"a pod more", func(s *impl.State) { s.Pods = append(s.Pods, s.Pods[0]) }, false},
			{"no pods", func(s *impl.State) { s.Pods = nil }, false},
			{"a mount fewer", func(s *impl.State) { s.Mounts = s.Mounts[1:] }, false},
			{"a mount more", func(s *impl.State) { s.Mounts = append(s.Mounts, s.Mounts[0]) }, false},
			{"no mounts", func(s *impl.State) { s.Mounts = nil }, false},
			{"a device fewer", func(s *impl.State) { s.Devices = s.Devices[1:] }, false},
			{"a device more", func(s *impl.State) { s.Devices = append(s.Devices, s.Devices[0]) }, false},
			{"no devices", func(s *impl.State) { s.Devices = nil }, false},
			{"a mount fewer, a device more", func(s *impl.State) {
				s.Mounts, s.Devices = s.Mounts[1:], append(s.Devices, true)
			}, false},
			{"very many pods", func(s *impl.State) { s.Pods = make([]impl.PodAt, 5000) }, false},
			{"very many mounts", func(s *impl.State) { s.Mounts = make([]impl.MountAt, 5000) }, false},
			{"very many devices", func(s *impl.State) { s.Devices = make([]bool, 5000) }, false},
		})
	}
	wantState(t, "of another plan", fullPlan(), busyState(), false)
	wantState(t, "of another plan", smallPlan(), edgeState(), false)
}

// Each number is moved alone, from busyState on.
func TestPromise5NumbersAtTheirEdges(t *testing.T) {
	for _, c := range []struct {
		name        string
		field       func(s *impl.State) *int64
		least, most int64
	}{
		{"Phase where it is cordoned", func(s *impl.State) *int64 { return &s.Phase }, 1, 8},
		{"Phase where it is not", func(s *impl.State) *int64 { s.Cordon = false; return &s.Phase }, 0, 0},
		{"Clock", func(s *impl.State) *int64 { return &s.Clock }, 0, 1000000},
		{"Boot", func(s *impl.State) *int64 { return &s.Boot }, 0, 1000000},
		{"Band", func(s *impl.State) *int64 { return &s.Band }, 0, 6},
		{"LockBy", func(s *impl.State) *int64 { return &s.LockBy }, 0, 1000000},
		{"State of the first pod", func(s *impl.State) *int64 { return &s.Pods[0].State }, 0, 6},
		{"State of the last pod", func(s *impl.State) *int64 { return &s.Pods[2].State }, 0, 6},
		{"Since of the first pod", func(s *impl.State) *int64 { return &s.Pods[0].Since }, 0, 1000000},
		{"Since of the last pod", func(s *impl.State) *int64 { return &s.Pods[2].Since }, 0, 1000000},
		{"Busy of the first mount, held", func(s *impl.State) *int64 { return &s.Mounts[0].Busy }, 0, 5},
		{"Busy of a mount that is busy", func(s *impl.State) *int64 { return &s.Mounts[2].Busy }, 0, 5},
		{"Busy of a mount that is not held", func(s *impl.State) *int64 { return &s.Mounts[1].Busy }, 0, 0},
		{"Busy of the last mount, not held", func(s *impl.State) *int64 { return &s.Mounts[4].Busy }, 0, 0},
		{"the first lock", func(s *impl.State) *int64 { return &s.Locks[0] }, 0, 3},
		{"a lock between two", func(s *impl.State) *int64 { return &s.Locks[1] }, 2, 5},
		{"the last lock", func(s *impl.State) *int64 { return &s.Locks[2] }, 5, 7},
		{"a lock alone", func(s *impl.State) *int64 { s.Locks = s.Locks[:1]; return &s.Locks[0] }, 0, 7},
		{"Good", func(s *impl.State) *int64 { return &s.Good }, 0, 3},
		{"Probes", func(s *impl.State) *int64 { return &s.Probes }, 2, 5},
		{"Probes of which none was good", func(s *impl.State) *int64 { s.Good = 0; return &s.Probes }, 0, 5},
	} {
		for _, n := range slices.Concat(someNumbers(), fieldEdges(), wrongFields(), []int64{c.least - 1, c.least, c.most, c.most + 1}) {
			s := busyState()
			*c.field(&s) = n
			if want := c.least <= n && n <= c.most; impl.StateOk(smallPlan(), s) != want {
				t.Errorf("%s of %d: StateOk is not %v", c.name, n, want)
			}
		}
	}
}

// All limits may be met at once, and each list is looked at to its end.
func TestPromise5EachPlaceIsLookedAt(t *testing.T) {
	for i := range 12 {
		wantStateChanges(t, fullPlan(), edgeState(), []stateChange{
			{"a pod's state passed", func(s *impl.State) { s.Pods[i].State = 7 }, false},
			{"a pod's state below 0", func(s *impl.State) { s.Pods[i].State = -1 }, false},
			{"a pod's since passed", func(s *impl.State) { s.Pods[i].Since = 1000001 }, false},
			{"a pod's since below 0", func(s *impl.State) { s.Pods[i].Since = -1 }, false},
			{"a mount's busy passed", func(s *impl.State) { s.Mounts[i].Busy = 6 }, false},
			{"a mount's busy below 0", func(s *impl.State) { s.Mounts[i].Busy = -1 }, false},
			{"a busy mount is not held", func(s *impl.State) { s.Mounts[i].Held = false }, false},
			{"a mount is not held", func(s *impl.State) { s.Mounts[i] = impl.MountAt{} }, true},
			{"a mount that is not held, below 0", func(s *impl.State) { s.Mounts[i] = impl.MountAt{Busy: -1} }, false},
			{"a device is not held", func(s *impl.State) { s.Devices[i] = false }, true},
			{"a lock passed", func(s *impl.State) { s.Locks[i%8] = 8 }, false},
			{"a lock below 0", func(s *impl.State) { s.Locks[i%8] = -1 }, false},
			{"a lock is left out", func(s *impl.State) { s.Locks = slices.Delete(s.Locks, i%8, i%8+1) }, true},
			{"a lock twice", func(s *impl.State) { s.Locks = slices.Insert(s.Locks, i%8, int64(i%8)) }, false},
			{"two locks changed", func(s *impl.State) { s.Locks[i%7], s.Locks[i%7+1] = s.Locks[i%7+1], s.Locks[i%7] }, false},
		})
	}
}

func TestPromise5CordonAtEachPhase(t *testing.T) {
	for _, n := range someNumbers() {
		for _, cordon := range []bool{true, false} {
			for _, c := range []struct {
				plan impl.Plan
				from impl.State
			}{{smallPlan(), busyState()}, {fullPlan(), edgeState()}, {smallPlan(), plainNew(smallPlan())}} {
				c.from.Phase, c.from.Cordon = n, cordon
				wantState(t, "cordoned or not", c.plan, c.from, n == 0 && !cordon || 1 <= n && n <= 8 && cordon)
			}
		}
	}
}

func TestPromise5Locks(t *testing.T) {
	for _, c := range []struct {
		locks []int64
		right bool
	}{
		{nil, true},
		{[]int64{}, true},
		{[]int64{0}, true},
		{[]int64{7}, true},
		{[]int64{8}, false},
		{[]int64{-1}, false},
		{[]int64{math.MinInt64}, false},
		{[]int64{math.MaxInt64}, false},
		{[]int64{0, 7}, true},
		{[]int64{7, 0}, false},
		{[]int64{0, 0}, false},
		{[]int64{7, 7}, false},
		{[]int64{7, 8}, false},
		{[]int64{-1, 0}, false},
		{[]int64{0, 2, 1}, false},
		{[]int64{0, 1, 1}, false},
		{[]int64{0, 2, 1, 3}, false},
		{[]int64{3, 4, 5, 0, 1, 2}, false},
		{[]int64{0, 1, 2, 3, 4, 5, 6, 7}, true},
		{[]int64{0, 1, 2, 3, 4, 5, 6, 7, 7}, false},
		{[]int64{0, 1, 2, 3, 4, 5, 6, 7, 8}, false},
		{[]int64{7, 6, 5, 4, 3, 2, 1, 0}, false},
		{make([]int64, 5000), false},
	} {
		s := busyState()
		s.Locks = c.locks
		if impl.StateOk(smallPlan(), s) != c.right {
			t.Errorf("locks %v: StateOk is not %v", c.locks, c.right)
		}
	}
	for set := range 256 {
		s := busyState()
		s.Locks = nil
		for who := range int64(8) {
			if set>>who&1 == 1 {
				s.Locks = append(s.Locks, who)
			}
		}
		wantState(t, "each set of locks", smallPlan(), s, true)
	}
}

// Good goes up to Probes, and these up to the plan's Tries; how many the plan's
// Probes are is no limit.
func TestPromise5GoodProbesAndTries(t *testing.T) {
	for _, limits := range [][2]int64{{1, 1}, {1, 2}, {2, 5}, {5, 5}, {9, 9}, {1, 30}, {9, 30}} {
		p := smallPlan()
		p.Probes, p.Tries = limits[0], limits[1]
		numbers := []int64{math.MinInt64, math.MinInt64 + 1, 1 << 32, math.MaxInt64}
		for n := int64(-2); n <= 32; n++ {
			numbers = append(numbers, n)
		}
		for _, good := range numbers {
			for _, probes := range numbers {
				s := busyState()
				s.Good, s.Probes = good, probes
				want := 0 <= good && good <= probes && probes <= p.Tries
				if impl.StateOk(p, s) != want {
					t.Errorf("%d good of %d, tries %d: StateOk is not %v", good, probes, p.Tries, want)
				}
			}
		}
	}
}

// Of what no one field asks StateOk asks nothing: neither of the order of
// times, nor of what is held by whom, nor of what fits a phase.
func TestPromise5NothingElseIsAsked(t *testing.T) {
	wantStateChanges(t, smallPlan(), busyState(), []stateChange{
		{"a time that is to come", func(s *impl.State) { s.Clock, s.Pods[0].Since = 0, 1000000 }, true},
		{"locks till a time that is past", func(s *impl.State) { s.Clock, s.LockBy = 1000000, 0 }, true},
		{"a band without a pod", func(s *impl.State) { s.Band = 3 }, true},
		{"an outer mount is not held, an inner one is", func(s *impl.State) { s.Mounts[0].Held = false }, true},
		{"a device whose mount is not held", func(s *impl.State) { s.Devices[0] = true }, true},
		{"idle, and much has happened", func(s *impl.State) { s.Phase, s.Cordon = impl.PhIdle, false }, true},
		{"down, and all run", func(s *impl.State) { s.Phase = impl.PhReboot; clear(s.Pods) }, true},
		{"checked before it was booted", func(s *impl.State) { s.Phase, s.Boot = impl.PhChecking, 0 }, true},
		{"all are evicted while it shuts", func(s *impl.State) {
			for i := range s.Pods {
				s.Pods[i].State = impl.PdEvicted
			}
		}, true},
		{"nothing is held", func(s *impl.State) { clear(s.Mounts); clear(s.Devices) }, true},
	})
}

func TestPromise5Alive(t *testing.T) {
	alive := map[int64]bool{impl.PdRunning: true, impl.PdHook: true, impl.PdTerm: true, impl.PdKill: true}
	for _, n := range slices.Concat(someNumbers(), fieldEdges(), wrongFields(), []int64{1<<32 + 2, 256, 257, 259}) {
		if impl.Alive(n) != alive[n] {
			t.Errorf("Alive of %d is not %v", n, alive[n])
		}
	}
}

func wantLive(t *testing.T, name string, s impl.State, want ...int64) {
	t.Helper()
	if got := impl.LiveIn(s); !alike(got, want...) {
		t.Errorf("%s: LiveIn are %v, not %v", name, got, want)
	}
}

// inStates is a state of one pod for each of these states, in this order, and
// of nothing else.
func inStates(states ...int64) impl.State {
	s := impl.State{}
	for _, n := range states {
		s.Pods = append(s.Pods, impl.PodAt{State: n})
	}
	return s
}

func TestPromise5LiveIn(t *testing.T) {
	wantLive(t, "the zero state", impl.State{})
	wantLive(t, "no pods", impl.State{Pods: []impl.PodAt{}})
	wantLive(t, "an ordinary one", busyState(), 0, 2)
	wantLive(t, "none", edgeState())
	wantLive(t, "each state", inStates(0, 1, 2, 3, 4, 5, 6), 0, 1, 2, 3)
	wantLive(t, "each state, the last one first", inStates(6, 5, 4, 3, 2, 1, 0), 3, 4, 5, 6)
	wantLive(t, "the last one alone", inStates(4, 5, 6, 4, 0), 4)
	for n := range int64(7) {
		s := inStates(slices.Repeat([]int64{n}, 12)...)
		if n <= impl.PdKill {
			wantLive(t, "all alike", s, 0, 1, 2, 3, 4, 5, 6, 7, 8, 9, 10, 11)
		} else {
			wantLive(t, "all alike", s)
		}
	}
}

// LiveIn has no plan beside it: it tells of the pods that there are, whatever
// else is not right.
func TestPromise5LiveInAStateThatIsNotRight(t *testing.T) {
	wantLive(t, "states that are none", inStates(-1, 7, math.MinInt64, math.MaxInt64, 1<<32, 0, 8, 3), 5, 7)
	s := inStates(0, 4, 1)
	s.Phase, s.Clock, s.Boot, s.Band, s.LockBy, s.Good, s.Probes = -1, -1, -1, 7, -1, 9, 8
	s.Pods[0].Since, s.Pods[2].Since = -5, math.MaxInt64
	s.Mounts = []impl.MountAt{{Busy: 9}}
	s.Locks = []int64{9, 9, -1}
	wantLive(t, "all else is wrong", s, 0, 2)
	long, all := inStates(make([]int64, 5000)...), []int64{}
	for i := range int64(5000) {
		all = append(all, i)
	}
	wantLive(t, "more pods than any plan has", long, all...)
}

// madeState is a right state of p that follows from seed alone.
func madeState(p impl.Plan, seed int64) impl.State {
	draw := func(below int64) int64 {
		seed = (seed*1103515245 + 12345) % (1 << 31)
		return seed / 65536 % below
	}
	s := impl.State{Phase: draw(9), Clock: draw(1000001), Boot: draw(1000001), Band: draw(7), LockBy: draw(1000001)}
	s.Cordon = s.Phase != impl.PhIdle
	s.Probes = draw(p.Tries + 1)
	s.Good = draw(s.Probes + 1)
	for range p.Pods {
		s.Pods = append(s.Pods, impl.PodAt{State: draw(7), Since: draw(1000001)})
	}
	for range p.Mounts {
		m := impl.MountAt{Held: draw(2) == 1}
		if m.Held {
			m.Busy = draw(6)
		}
		s.Mounts = append(s.Mounts, m)
	}
	for range p.Devices {
		s.Devices = append(s.Devices, draw(2) == 1)
	}
	for who := range int64(8) {
		if draw(2) == 1 {
			s.Locks = append(s.Locks, who)
		}
	}
	return s
}

// stateSpoils each make any state wrong, of whatever plan it is.
func stateSpoils() map[string]func(s *impl.State) {
	return map[string]func(s *impl.State){
		"Phase passed":           func(s *impl.State) { s.Phase, s.Cordon = 9, true },
		"Phase below 0":          func(s *impl.State) { s.Phase, s.Cordon = -1, true },
		"Cordon":                 func(s *impl.State) { s.Cordon = !s.Cordon },
		"Clock passed":           func(s *impl.State) { s.Clock = 1000001 },
		"Clock below 0":          func(s *impl.State) { s.Clock = -1 },
		"Boot passed":            func(s *impl.State) { s.Boot = 1000001 },
		"Boot below 0":           func(s *impl.State) { s.Boot = -1 },
		"Band passed":            func(s *impl.State) { s.Band = 7 },
		"Band below 0":           func(s *impl.State) { s.Band = -1 },
		"LockBy passed":          func(s *impl.State) { s.LockBy = 1000001 },
		"LockBy below 0":         func(s *impl.State) { s.LockBy = -1 },
		"Good passed":            func(s *impl.State) { s.Good = s.Probes + 1 },
		"Good below 0":           func(s *impl.State) { s.Good = -1 },
		"Probes passed":          func(s *impl.State) { s.Probes = 31 },
		"Good and Probes below":  func(s *impl.State) { s.Good, s.Probes = -1, -1 },
		"a pod more":             func(s *impl.State) { s.Pods = append(s.Pods, impl.PodAt{}) },
		"a mount more":           func(s *impl.State) { s.Mounts = append(s.Mounts, impl.MountAt{Held: true}) },
		"a device more":          func(s *impl.State) { s.Devices = append(s.Devices, true) },
		"a lock passed":          func(s *impl.State) { s.Locks = append(s.Locks, 8) },
		"a lock below 0":         func(s *impl.State) { s.Locks = slices.Insert(s.Locks, 0, -1) },
		"locks that do not rise": func(s *impl.State) { s.Locks = []int64{3, 3} },
	}
}

func TestPromise5MadeStates(t *testing.T) {
	for seed := range int64(300) {
		p := madePlan(seed)
		s := madeState(p, seed+1000)
		wantState(t, "a made one", p, s, true)
		for name, spoil := range stateSpoils() {
			wrong := ownState(s)
			spoil(&wrong)
			wantState(t, name, p, wrong, false)
		}
		live := []int64{}
		for i, at := range s.Pods {
			if at.State < 4 {
				live = append(live, int64(i))
			}
		}
		wantLive(t, "a made one", s, live...)
	}
}
