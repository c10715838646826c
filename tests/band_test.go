package tests

import (
	"slices"
	"testing"

	"loop.example/g00767/impl"
)

// podsPlan is a plan of these pods, all in one group, and of nothing else.
func podsPlan(pods ...impl.Pod) impl.Plan {
	return impl.Plan{Pods: pods, Mins: []int64{0}, Probes: 1, Tries: 1}
}

// inBands is a plan of one pod for each of these bands, in this order.
func inBands(bands ...int64) impl.Plan {
	p := podsPlan()
	for _, b := range bands {
		p.Pods = append(p.Pods, impl.Pod{Band: b})
	}
	return p
}

// wantBand checks what is told of one band.
func wantBand(t *testing.T, p impl.Plan, band, next, time int64, pods ...int64) {
	t.Helper()
	if got := impl.NextBand(p, band); got != next {
		t.Errorf("NextBand of %d is %d, not %d", band, got, next)
	}
	if got := impl.BandTime(p, band); got != time {
		t.Errorf("BandTime of %d is %d, not %d", band, got, time)
	}
	if got := impl.PodsOf(p, band); !alike(got, pods...) {
		t.Errorf("PodsOf %d are %v, not %v", band, got, pods)
	}
}

func wantBands(t *testing.T, p impl.Plan, bands ...int64) {
	t.Helper()
	if got := impl.BandsOf(p); !alike(got, bands...) {
		t.Errorf("BandsOf are %v, not %v", got, bands)
	}
}

func TestPromise2NoPod(t *testing.T) {
	least := impl.Plan{Probes: 1, Tries: 1}
	empty := podsPlan([]impl.Pod{}...)
	empty.Mins = []int64{0, 12, 3}
	for _, p := range []impl.Plan{least, empty} {
		wantBands(t, p)
		for _, n := range someNumbers() {
			wantBand(t, p, n, -1, 0)
		}
	}
}

func TestPromise2OneBand(t *testing.T) {
	p := podsPlan(impl.Pod{Band: 3, Grace: 20, Hook: 7})
	wantBands(t, p, 3)
	wantBand(t, p, 2, 3, 0)
	wantBand(t, p, 3, -1, 31, 0)
	wantBand(t, p, 4, -1, 0)
	for b := range int64(6) {
		p := inBands(b, b, b, b)
		wantBands(t, p, b)
		wantBand(t, p, b-1, b, 0)
		wantBand(t, p, b, -1, 4, 0, 1, 2, 3)
		wantBand(t, p, b+1, -1, 0)
	}
}

func TestPromise2BandsWithGaps(t *testing.T) {
	p := inBands(4, 1, 4, 0, 1, 4)
	wantBands(t, p, 0, 1, 4)
	wantBand(t, p, -1<<63, 0, 0)
	wantBand(t, p, -2, 0, 0)
	wantBand(t, p, -1, 0, 0)
	wantBand(t, p, 0, 1, 4, 3)
	wantBand(t, p, 1, 4, 4, 1, 4)
	wantBand(t, p, 2, 4, 0)
	wantBand(t, p, 3, 4, 0)
	wantBand(t, p, 4, -1, 4, 0, 2, 5)
	wantBand(t, p, 5, -1, 0)
	wantBand(t, p, 6, -1, 0)
	wantBand(t, p, 1000000, -1, 0)
	wantBand(t, p, 1<<63-1, -1, 0)
}

// No pod is in the first band: the least one that is more than -1 is not 0.
func TestPromise2FirstBandIsNotZero(t *testing.T) {
	p := inBands(5, 2)
	wantBands(t, p, 2, 5)
	for _, n := range []int64{-1 << 63, -7, -1, 0, 1} {
		wantBand(t, p, n, 2, 0)
	}
	wantBand(t, p, 2, 5, 4, 1)
	wantBand(t, p, 5, -1, 4, 0)
}

func TestPromise2AllBands(t *testing.T) {
	p := inBands(5, 4, 3, 2, 1, 0, 0, 1, 2, 3, 4, 5)
	wantBands(t, p, 0, 1, 2, 3, 4, 5)
	wantBand(t, p, -1, 0, 0)
	for b := range int64(5) {
		wantBand(t, p, b, b+1, 4, 5-b, 6+b)
	}
	wantBand(t, p, 5, -1, 4, 0, 11)
	wantBand(t, p, 6, -1, 0)
}

// The pods of a band need not be of one group.
func TestPromise2BandsGoAcrossGroups(t *testing.T) {
	p := inBands(2, 0, 2)
	p.Mins = []int64{0, 0, 0}
	p.Pods[1].Group, p.Pods[2].Group = 1, 2
	wantBands(t, p, 0, 2)
	wantBand(t, p, 0, 2, 4, 1)
	wantBand(t, p, 2, -1, 4, 0, 2)
}

func TestPromise2BandTime(t *testing.T) {
	for _, c := range []struct {
		name string
		pods []impl.Pod
		want int64
	}{
		{"no time at all", []impl.Pod{{}}, 4},
		{"a hook alone", []impl.Pod{{Hook: 9}}, 13},
		{"a grace alone", []impl.Pod{{Grace: 9}}, 13},
		{"both", []impl.Pod{{Hook: 9, Grace: 2}}, 15},
		{"at the limits", []impl.Pod{{Hook: 500, Grace: 500}}, 1004},
		{"the slowest is the first", []impl.Pod{{Hook: 9, Grace: 2}, {Hook: 1, Grace: 1}, {}}, 15},
		{"the slowest is in the middle", []impl.Pod{{Hook: 1, Grace: 1}, {Hook: 9, Grace: 2}, {}}, 15},
		{"the slowest is the last", []impl.Pod{{}, {Hook: 1, Grace: 1}, {Hook: 9, Grace: 2}}, 15},
		{"greatest hook and greatest grace of two pods", []impl.Pod{{Hook: 9, Grace: 2}, {Hook: 3, Grace: 6}}, 15},
		{"of two pods, the one of the grace slower", []impl.Pod{{Hook: 9, Grace: 2}, {Hook: 3, Grace: 30}}, 37},
		{"of two pods, a third one slower", []impl.Pod{{Hook: 9}, {Grace: 9}, {Hook: 6, Grace: 6}}, 16},
		{"of two pods, at the limits", []impl.Pod{{Hook: 500}, {Grace: 500}}, 504},
		{"another band is slower", []impl.Pod{{Hook: 9, Grace: 2}, {Band: 1, Hook: 500, Grace: 500}}, 15},
	} {
		p := podsPlan(c.pods...)
		if got := impl.BandTime(p, 0); got != c.want {
			t.Errorf("%s: %d, not %d", c.name, got, c.want)
		}
	}
	// Neither locks nor what is mounted is a part of it.
	p := smallPlan()
	wantBand(t, p, 0, 1, 4, 1)
	wantBand(t, p, 1, 4, 27, 0)
	wantBand(t, p, 4, -1, 11, 2)
	wantBand(t, fullPlan(), 5, -1, 1004, 0, 1, 2, 3, 4, 5, 6, 7, 8, 9, 10, 11)
}

// fullBands is fullPlan with pods in all the bands.
func fullBands() impl.Plan {
	p := fullPlan()
	for i := range p.Pods {
		p.Pods[i].Band = int64(i % 6)
	}
	return p
}

func TestPromise2WholeTime(t *testing.T) {
	for _, c := range []struct {
		name string
		plan impl.Plan
		want int64
	}{
		{"nothing", impl.Plan{Probes: 1, Tries: 1}, 4},
		{"no pod, locks", impl.Plan{LockMax: 6, Probes: 1, Tries: 1}, 6 + 4},
		{"no pod, locks at the limit", impl.Plan{LockMax: 500, Probes: 1, Tries: 1}, 500 + 4},
		{"one band", inBands(3), 4 + 4},
		{"one band of several pods", podsPlan(impl.Pod{Grace: 8}, impl.Pod{Hook: 3}), 12 + 4},
		{"bands with gaps", inBands(4, 1, 4, 0), 4 + 4 + 4 + 4},
		{"bands of unlike times", podsPlan(impl.Pod{Band: 5, Grace: 8}, impl.Pod{Band: 2, Hook: 3}, impl.Pod{Band: 5}), 12 + 7 + 4},
		{"an ordinary plan", smallPlan(), 9 + 4 + 27 + 11 + 6*8 + 4},
		{"one band at the limits", fullPlan(), 500 + 1004 + 6*24 + 4},
		{"all bands at the limits", fullBands(), 500 + 6*1004 + 6*24 + 4},
	} {
		if got := impl.WholeTime(c.plan); got != c.want {
			t.Errorf("%s: %d, not %d", c.name, got, c.want)
		}
	}
	p := podsPlan(impl.Pod{Grace: 8})
	p.Mounts = []impl.Mount{{Pod: 0, Parent: -1}, {Pod: 0, Parent: 0}}
	if got := impl.WholeTime(p); got != 12+12+4 {
		t.Error("two mounts and no device:", got)
	}
	p.Devices = []impl.Device{{Mount: 1}, {Mount: 1}, {Mount: 0}}
	if got := impl.WholeTime(p); got != 12+30+4 {
		t.Error("two mounts and three devices:", got)
	}
}

// wrongPlans are each wrong in one thing, most of them in one that a band has
// nothing to do with.
func wrongPlans() map[string]func(p *impl.Plan) {
	return map[string]func(p *impl.Plan){
		"the zero plan":           func(p *impl.Plan) { *p = impl.Plan{} },
		"a pod in band 6":         func(p *impl.Plan) { p.Pods[2].Band = 6 },
		"a pod in band -1":        func(p *impl.Plan) { p.Pods[0].Band = -1 },
		"a pod in no group":       func(p *impl.Plan) { p.Pods[1].Group = 3 },
		"a grace passed":          func(p *impl.Plan) { p.Pods[0].Grace = 501 },
		"a hook below 0":          func(p *impl.Plan) { p.Pods[0].Hook = -1 },
		"a hook passed":           func(p *impl.Plan) { p.Pods[2].Hook = 501 },
		"a min passed":            func(p *impl.Plan) { p.Mins[2] = 13 },
		"a group too many":        func(p *impl.Plan) { p.Mins = append(p.Mins, 0, 0) },
		"a mount of no pod":       func(p *impl.Plan) { p.Mounts[4].Pod = 3 },
		"a mount in itself":       func(p *impl.Plan) { p.Mounts[4].Parent = 4 },
		"a device on nothing":     func(p *impl.Plan) { p.Devices[2].Mount = 5 },
		"locks passed":            func(p *impl.Plan) { p.LockMax = 501 },
		"locks below 0":           func(p *impl.Plan) { p.LockMax = -1 },
		"no probe":                func(p *impl.Plan) { p.Probes = 0 },
		"fewer tries than probes": func(p *impl.Plan) { p.Tries = 1 },
		"a try too many":          func(p *impl.Plan) { p.Tries = 31 },
		"a pod too many": func(p *impl.Plan) {
			for range 10 {
				p.Pods = append(p.Pods, impl.Pod{})
			}
		},
		"a mount too many": func(p *impl.Plan) {
			for range 8 {
				p.Mounts = append(p.Mounts, impl.Mount{Parent: -1})
			}
		},
		"a device too many": func(p *impl.Plan) {
			for range 10 {
				p.Devices = append(p.Devices, impl.Device{})
			}
		},
		"no pods, and no try": func(p *impl.Plan) { *p = impl.Plan{Probes: 1} },
	}
}

func TestPromise2PlansThatAreNotRight(t *testing.T) {
	for name, spoil := range wrongPlans() {
		p := smallPlan()
		spoil(&p)
		if got := impl.BandsOf(p); len(got) != 0 {
			t.Errorf("%s: BandsOf are %v", name, got)
		}
		if got := impl.WholeTime(p); got != -1 {
			t.Errorf("%s: WholeTime is %d", name, got)
		}
		for _, n := range someNumbers() {
			if next, time, pods := impl.NextBand(p, n), impl.BandTime(p, n), impl.PodsOf(p, n); next != -1 || time != -1 || len(pods) != 0 {
				t.Errorf("%s, band %d: NextBand is %d, BandTime %d, PodsOf %v", name, n, next, time, pods)
			}
		}
	}
}

// slowest is BandTime told another way: no pod of the band takes longer, and
// one takes just so long.
func slowest(p impl.Plan, pods []int64) int64 {
	times := []int64{}
	for _, i := range pods {
		times = append(times, p.Pods[i].Hook+p.Pods[i].Grace+4)
	}
	return slices.Max(times)
}

// From ahead of all bands on, NextBand goes through BandsOf, and each pod is in
// just one of them.
func TestPromise2OneAfterTheOther(t *testing.T) {
	for seed := range int64(300) {
		p := madePlan(seed)
		walked, met := []int64{}, 0
		whole := p.LockMax + 6*int64(len(p.Mounts)+len(p.Devices)) + 4
		for b := impl.NextBand(p, -1); b != -1; b = impl.NextBand(p, b) {
			if len(walked) > 0 && b <= walked[len(walked)-1] {
				t.Fatal("NextBand does not rise", walked, b)
			}
			walked = append(walked, b)
			pods := impl.PodsOf(p, b)
			if len(pods) == 0 {
				t.Fatal("no pod has the band", b)
			}
			if got, want := impl.BandTime(p, b), slowest(p, pods); got != want {
				t.Fatal("BandTime of", b, "is", got, "and not", want)
			}
			met += len(pods)
			whole += impl.BandTime(p, b)
		}
		wantBands(t, p, walked...)
		if met != len(p.Pods) {
			t.Fatal("pods of all bands:", met, "pods:", len(p.Pods))
		}
		if got := impl.WholeTime(p); got != whole {
			t.Fatal("WholeTime is", got, "and not", whole)
		}
		bands := placesOf(t, len(p.Pods), 0, 5, func(n int64) []int64 { return impl.PodsOf(p, n) })
		for i, d := range p.Pods {
			if bands[i] != d.Band {
				t.Fatal("pod", i, "is of the band", bands[i])
			}
		}
	}
}
