package tests

import (
	"math"
	"slices"
	"testing"

	"loop.example/g00767/impl"
)

// groupsPlan has these Mins, and a pod in each of these groups, in this order.
func groupsPlan(mins []int64, groups ...int64) impl.Plan {
	p := impl.Plan{Mins: mins, Probes: 1, Tries: 1}
	for i, group := range groups {
		p.Pods = append(p.Pods, impl.Pod{Group: group, Band: int64(i) % 6, Hook: int64(i)})
	}
	return p
}

// draining is a new state of p that drains, its pods in these states; those of
// which none is told run.
func draining(p impl.Plan, states ...int64) impl.State {
	s := plainNew(p)
	s.Phase, s.Cordon = impl.PhDraining, true
	for i, n := range states {
		s.Pods[i].State = n
	}
	return s
}

// notNumbers are below 0, past any plan, and some that look like a pod or a
// group in fewer bits.
func notNumbers() []int64 {
	return []int64{
		math.MinInt64, math.MinInt64 + 1, -1 << 32, -1<<32 + 1, -256, -255, -13, -12, -5, -4, -3, -2, -1,
		12, 13, 100, 256, 257, 65536, 1 << 32, 1<<32 + 1, 1<<63 - 256, math.MaxInt64 - 1, math.MaxInt64,
	}
}

// wantHealthy checks how many are healthy in each group, and that there is no
// other group.
func wantHealthy(t *testing.T, name string, p impl.Plan, s impl.State, want ...int64) {
	t.Helper()
	for group, n := range want {
		if got := impl.HealthyIn(p, s, int64(group)); got != n {
			t.Errorf("%s: HealthyIn %d is %d, not %d", name, group, got, n)
		}
	}
	for _, group := range append(notNumbers(), int64(len(want)), int64(len(want))+1) {
		if got := impl.HealthyIn(p, s, group); got != -1 {
			t.Errorf("%s: HealthyIn %d is %d, and there are %d groups", name, group, got, len(want))
		}
	}
}

// wantMay checks that these pods may be evicted, and no others.
func wantMay(t *testing.T, name string, p impl.Plan, s impl.State, pods ...int64) {
	t.Helper()
	for _, pod := range append(notNumbers(), 0, 1, 2, 3, 4, 5, 6, 7, 8, 9, 10, 11) {
		if want := slices.Contains(pods, pod); impl.MayEvict(p, s, pod) != want {
			t.Errorf("%s: MayEvict %d is not %v", name, pod, want)
		}
	}
}

// wantNoBudget checks that nothing is told of what is not right.
func wantNoBudget(t *testing.T, name string, p impl.Plan, s impl.State) {
	t.Helper()
	wantHealthy(t, name, p, s)
	for _, group := range []int64{0, 1, 2, 3} {
		if got := impl.HealthyIn(p, s, group); got != -1 {
			t.Errorf("%s: HealthyIn %d is %d, not -1", name, group, got)
		}
	}
	wantMay(t, name, p, s)
}

// plainHealthy and plainMay are the document's sentences of a right state.
func plainHealthy(p impl.Plan, s impl.State, group int64) int64 {
	count := int64(0)
	for i, d := range p.Pods {
		if d.Group == group && s.Pods[i].State == 0 {
			count++
		}
	}
	return count
}

func plainMay(p impl.Plan, s impl.State) []int64 {
	pods := []int64{}
	for i, d := range p.Pods {
		if s.Phase == 2 && s.Pods[i].State == 0 && plainHealthy(p, s, d.Group) > p.Mins[d.Group] {
			pods = append(pods, int64(i))
		}
	}
	return pods
}

func wantAsPlainBudget(t *testing.T, name string, p impl.Plan, s impl.State) {
	t.Helper()
	healthy := []int64{}
	for group := range p.Mins {
		healthy = append(healthy, plainHealthy(p, s, int64(group)))
	}
	wantHealthy(t, name, p, s, healthy...)
	wantMay(t, name, p, s, plainMay(p, s)...)
}

func TestPromise8HealthyInEachGroup(t *testing.T) {
	wantHealthy(t, "a new one", smallPlan(), plainNew(smallPlan()), 2, 1, 0)
	wantHealthy(t, "a busy one", smallPlan(), busyState(), 1, 0, 0)
	wantHealthy(t, "all in the last group", fullPlan(), plainNew(fullPlan()), 0, 0, 0, 12)
	wantHealthy(t, "all are evicted", fullPlan(), edgeState(), 0, 0, 0, 0)
	p := groupsPlan([]int64{1, 2, 3, 4}, 3, 0, 1, 3, 1, 3, 0, 3, 1, 3)
	wantHealthy(t, "groups that are mixed", p, draining(p), 2, 3, 0, 5)
	p = groupsPlan([]int64{0}, 0, 0, 0, 0, 0, 0, 0, 0, 0, 0, 0, 0)
	wantHealthy(t, "one group", p, draining(p), 12)
}

func TestPromise8GroupsWithoutPods(t *testing.T) {
	none := impl.Plan{Probes: 1, Tries: 1}
	wantHealthy(t, "no group", none, impl.State{})
	wantMay(t, "no group", none, impl.State{})
	wantMay(t, "no group, and it drains", none, draining(none))
	for count := 1; count <= 4; count++ {
		p := groupsPlan(make([]int64, count))
		wantHealthy(t, "groups alone", p, draining(p), make([]int64, count)...)
		wantMay(t, "groups alone", p, draining(p))
	}
}

// How many are healthy is told in each phase, of whatever the state is beside
// its pods.
func TestPromise8HealthyInEachPhase(t *testing.T) {
	for phase := range int64(9) {
		s := busyState()
		s.Phase, s.Cordon = phase, phase != impl.PhIdle
		wantHealthy(t, "a phase", smallPlan(), s, 1, 0, 0)
		s = edgeState()
		s.Phase, s.Cordon = phase, phase != impl.PhIdle
		s.Pods[4].State, s.Pods[11].State = impl.PdRunning, impl.PdRunning
		wantHealthy(t, "a phase, at its limits", fullPlan(), s, 0, 0, 0, 2)
	}
}

func TestPromise8OnlyWhatRunsIsHealthy(t *testing.T) {
	p := groupsPlan([]int64{0, 0}, 1, 1, 1, 1, 1, 1, 1, 0)
	wantHealthy(t, "each state", p, draining(p, 0, 1, 2, 3, 4, 5, 6), 1, 1)
	wantMay(t, "each state", p, draining(p, 0, 1, 2, 3, 4, 5, 6), 0, 7)
	wantHealthy(t, "each state, the last one first", p, draining(p, 6, 5, 4, 3, 2, 1, 0), 1, 1)
	wantMay(t, "each state, the last one first", p, draining(p, 6, 5, 4, 3, 2, 1, 0), 6, 7)
	for state := range int64(7) {
		count := int64(0)
		if state == impl.PdRunning {
			count = 7
		}
		wantHealthy(t, "all alike", p, draining(p, slices.Repeat([]int64{state}, 7)...), 1, count)
	}
}

func TestPromise8MayEvictInEachPhase(t *testing.T) {
	p := groupsPlan([]int64{1, 0, 0}, 0, 1, 0, 1)
	for phase := range int64(9) {
		s := draining(p)
		s.Phase, s.Cordon = phase, phase != impl.PhIdle
		if phase == impl.PhDraining {
			wantMay(t, "it drains", p, s, 0, 1, 2, 3)
		} else {
			wantMay(t, "it does not drain", p, s)
		}
	}
}

// A pod that is not there may not be evicted, however many are left.
func TestPromise8MayEvictWhichPod(t *testing.T) {
	for count := range int64(13) {
		p, all := groupsPlan([]int64{0, 0}), []int64{}
		for pod := range count {
			p.Pods = append(p.Pods, impl.Pod{Group: pod % 2})
			all = append(all, pod)
		}
		wantMay(t, "all run", p, draining(p), all...)
	}
}

// The pod itself has to run, though there are enough others.
func TestPromise8MayEvictInEachState(t *testing.T) {
	for pod := range int64(12) {
		for state := range int64(7) {
			p := groupsPlan([]int64{3}, 0, 0, 0, 0, 0, 0, 0, 0, 0, 0, 0, 0)
			all := []int64{0, 1, 2, 3, 4, 5, 6, 7, 8, 9, 10, 11}
			s := draining(p)
			s.Pods[pod].State = state
			if state != impl.PdRunning {
				all = slices.Delete(all, int(pod), int(pod)+1)
			}
			wantHealthy(t, "one in this state", p, s, int64(len(all)))
			wantMay(t, "one in this state", p, s, all...)
		}
	}
}

// Of so many that run may one be evicted just where that is more than Min.
func TestPromise8AroundMin(t *testing.T) {
	for least := range int64(13) {
		for count := range int64(13) {
			p := groupsPlan([]int64{0, least}, 1, 1, 1, 1, 1, 1, 1, 1, 1, 1, 1, 1)
			s, run := draining(p), []int64{}
			for pod := range int64(12) {
				// The pods that run are spread over all of them.
				if place := pod * 5 % 12; place < count {
					run = append(run, pod)
				} else {
					s.Pods[pod].State = 1 + place%6
				}
			}
			wantHealthy(t, "so many run", p, s, 0, count)
			if count <= least {
				run = nil
			}
			wantMay(t, "so many run", p, s, run...)
		}
	}
}

func TestPromise8NoMin(t *testing.T) {
	p := groupsPlan([]int64{0, 1}, 0, 1, 0)
	wantMay(t, "two and one", p, draining(p), 0, 2)
	wantMay(t, "the last one of a group", p, draining(p, impl.PdEvicted), 2)
	wantMay(t, "the last one of a group", p, draining(p, 0, 0, impl.PdFailed), 0)
	wantMay(t, "none of a group", p, draining(p, impl.PdStopped, 0, impl.PdEvicted))
	alone := groupsPlan([]int64{0}, 0)
	wantMay(t, "the last one of all", alone, draining(alone), 0)
	wantMay(t, "it is evicted", alone, draining(alone, impl.PdEvicted))
	kept := groupsPlan([]int64{1}, 0)
	wantMay(t, "it has to be left", kept, draining(kept))
}

// Whatever other groups have, and have to have, a group has its own.
func TestPromise8OtherGroupsDoNotCount(t *testing.T) {
	p := groupsPlan([]int64{2, 0, 9, 1}, 0, 1, 3, 0, 3, 1, 3, 2, 1)
	wantHealthy(t, "all run", p, draining(p), 2, 3, 1, 3)
	wantMay(t, "all run", p, draining(p), 1, 2, 4, 5, 6, 8)
	s := draining(p, 0, 6, 5, 0, 0, 4, 3, 0, 2)
	wantHealthy(t, "most of the others do not run", p, s, 2, 0, 1, 1)
	wantMay(t, "most of the others do not run", p, s)
	s = draining(p, 6, 0, 0, 0, 0, 0, 0, 6, 0)
	wantHealthy(t, "two have too few", p, s, 1, 3, 0, 3)
	wantMay(t, "two have too few", p, s, 1, 2, 4, 5, 6, 8)
}

// The Mins of a plan may be more than the pods that there are.
func TestPromise8MinsThatAreNeverMet(t *testing.T) {
	wantMay(t, "as many as there are", fullPlan(), draining(fullPlan()))
	p := groupsPlan([]int64{12, 12, 12, 12}, 0, 1, 2, 3)
	wantHealthy(t, "more than there are", p, draining(p), 1, 1, 1, 1)
	wantMay(t, "more than there are", p, draining(p))
	for group := range p.Mins {
		p.Mins[group] = 0
		may := []int64{}
		for pod := range int64(group) + 1 {
			may = append(may, pod)
		}
		wantMay(t, "of some groups none has to be left", p, draining(p), may...)
	}
}

func TestPromise8StatesThatAreNotRight(t *testing.T) {
	loose := fullPlan()
	loose.Mins = []int64{0, 0, 0, 0}
	for _, p := range []impl.Plan{smallPlan(), loose, groupsPlan([]int64{0, 1}, 0, 1, 1)} {
		all := []int64{0, 1, 2, 3, 4, 5, 6, 7, 8, 9, 10, 11}[:len(p.Pods)]
		for name, spoil := range stateSpoils() {
			s := draining(p)
			wantMay(t, "ahead of "+name, p, s, all...)
			spoil(&s)
			wantNoBudget(t, name, p, s)
		}
		for _, state := range []int64{-1, 7, math.MinInt64, math.MaxInt64, 1 << 32} {
			for pod := range p.Pods {
				s := draining(p)
				s.Pods[pod].State = state
				wantNoBudget(t, "a pod in no state", p, s)
			}
		}
		wantNoBudget(t, "the zero state", p, impl.State{})
	}
	wantNoBudget(t, "of another plan", smallPlan(), draining(fullPlan()))
	wantNoBudget(t, "of another plan", fullPlan(), draining(smallPlan()))
}

func TestPromise8PlansThatAreNotRight(t *testing.T) {
	for name, spoil := range wrongPlans() {
		p := smallPlan()
		wantMay(t, "ahead of "+name, p, draining(p), 0, 1, 2)
		spoil(&p)
		wantNoBudget(t, name+", a state that would fit", p, draining(p))
		wantNoBudget(t, name+", a state that did fit", p, draining(smallPlan()))
	}
}

// Four pods of two groups, in all states that they can have, in each phase.
func TestPromise8AllStatesOfFour(t *testing.T) {
	for least := range int64(3) {
		p := groupsPlan([]int64{least, 1, 0}, 0, 1, 0, 0)
		for n := range int64(7 * 7 * 7 * 7) {
			s := draining(p, n%7, n/7%7, n/49%7, n/343)
			wantAsPlainBudget(t, "four pods", p, s)
			s.Phase = 1 + n%8
			wantAsPlainBudget(t, "four pods, in any phase", p, s)
		}
	}
}

func TestPromise8MadeStates(t *testing.T) {
	for seed := range int64(600) {
		p := madePlan(seed)
		for group := range p.Mins {
			p.Mins[group] %= 4
		}
		s := madeState(p, seed+2000)
		wantAsPlainBudget(t, "a made one", p, s)
		s.Phase, s.Cordon = impl.PhDraining, true
		wantAsPlainBudget(t, "a made one that drains", p, s)
		for pod := range s.Pods {
			if (int64(pod)+seed)%3 > 0 {
				s.Pods[pod].State = impl.PdRunning
			}
		}
		wantAsPlainBudget(t, "a made one of which most run", p, s)
	}
}

// evictAll evicts, in this order, each pod of which MayEvict says so then, and
// answers the state that is left. Whenever one is evicted, no group has fewer
// than its Min then, but for one that had fewer from the beginning on: of that
// none is evicted.
func evictAll(t *testing.T, p impl.Plan, s impl.State, order []int64) impl.State {
	t.Helper()
	from := ownState(s)
	for _, pod := range order {
		if !impl.MayEvict(p, s, pod) {
			continue
		}
		made, ok := impl.AppliedRec(p, s, impl.Rec{Kind: impl.RcPod, A: pod, B: impl.PdEvicted})
		if !ok {
			t.Fatalf("pod %d may be evicted from %+v, and is not", pod, s)
		}
		s = made
		for group, least := range p.Mins {
			had, has := plainHealthy(p, from, int64(group)), plainHealthy(p, s, int64(group))
			if has < min(had, least) {
				t.Fatalf("%d are left of %d in group %d, whose Min is %d", has, had, group, least)
			}
		}
	}
	return s
}

// orders are some in which as many pods can stand.
func orders(count int) [][]int64 {
	list := [][]int64{{}}
	for pod := range int64(count) {
		list[0] = append(list[0], pod)
	}
	backward, mixed := slices.Clone(list[0]), []int64{}
	slices.Reverse(backward)
	for i := range int64(13) {
		if pod := i * 6 % 13; pod < int64(count) {
			mixed = append(mixed, pod)
		}
	}
	twice := slices.Concat(mixed, backward, []int64{-1, int64(count)})
	return append(list, backward, mixed, twice)
}

// wantBudgetsKept checks that, whoever is asked first, of each group just those
// are moved that may be.
func wantBudgetsKept(t *testing.T, p impl.Plan, s impl.State) {
	t.Helper()
	for _, order := range orders(len(p.Pods)) {
		left := evictAll(t, p, s, order)
		for group, least := range p.Mins {
			want := min(plainHealthy(p, s, int64(group)), least)
			if got := impl.HealthyIn(p, left, int64(group)); got != want {
				t.Errorf("of group %d are left %d, not %d, when asked in the order %v", group, got, want, order)
			}
		}
		wantMay(t, "all are moved that may be", p, left)
	}
}

func TestPromise8OneAfterTheOther(t *testing.T) {
	for least := range int64(13) {
		p := groupsPlan([]int64{least}, 0, 0, 0, 0, 0, 0, 0, 0, 0, 0, 0, 0)
		wantBudgetsKept(t, p, draining(p))
		p = groupsPlan([]int64{least % 4, least % 3, 12, least % 6}, 3, 0, 1, 3, 1, 3, 0, 3, 1, 3, 2, 3)
		wantBudgetsKept(t, p, draining(p))
		wantBudgetsKept(t, p, draining(p, 6, 0, 1, 0, 0, 4, 0, 0, 5))
	}
	wantBudgetsKept(t, smallPlan(), draining(smallPlan()))
	for seed := range int64(300) {
		p := madePlan(seed)
		for group := range p.Mins {
			p.Mins[group] %= 5
		}
		wantBudgetsKept(t, p, draining(p))
		s := madeState(p, seed)
		s.Phase, s.Cordon = impl.PhDraining, true
		wantBudgetsKept(t, p, s)
	}
}

// A pod that ends by itself leaves room for fewer.
func TestPromise8OneEndsInBetween(t *testing.T) {
	p := groupsPlan([]int64{2, 0}, 0, 0, 0, 0, 1)
	s := evictAll(t, p, draining(p), []int64{1})
	wantMay(t, "three of four are left", p, s, 0, 2, 3, 4)
	failed, ok := impl.AppliedRec(p, s, impl.Rec{Kind: impl.RcPod, A: 3, B: impl.AfterExit(s.Pods[3].State)})
	if !ok {
		t.Fatal("pod 3 does not end")
	}
	wantHealthy(t, "one has ended", p, failed, 2, 1)
	wantMay(t, "one has ended", p, failed, 4)
	back, ok := impl.AppliedRec(p, failed, impl.Rec{Kind: impl.RcPod, A: 3, B: impl.PdRunning})
	if !ok {
		t.Fatal("pod 3 does not run again")
	}
	wantMay(t, "it runs again", p, back, 0, 2, 3, 4)
}
