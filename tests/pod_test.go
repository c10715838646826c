package tests

import (
	"math"
	"math/big"
	"slices"
	"testing"

	"loop.example/g00767/impl"
)

// manyClocks are clocks a machine can have, and ones it cannot.
func manyClocks() []int64 {
	return []int64{
		math.MinInt64, math.MinInt64 + 1, -1 << 32, -1000, -1, 0, 1, 2, 41, 500, 999999, 1000000, 1 << 32,
		math.MaxInt64 - 1, math.MaxInt64,
	}
}

// notStates are below, past, and some that look like a state in fewer bits.
func notStates() []int64 {
	return []int64{
		-1, -2, -3, -7, 7, 8, 10, 127, 128, 255, 256, 257, 258, 259, 1<<32 + 1, 1<<32 + 2, 1<<32 + 3,
		math.MaxInt64, math.MaxInt64 - 1, math.MinInt64, math.MinInt64 + 1, math.MinInt64 + 3,
	}
}

// plainSpent is clock less since, reckoned without a bound, and taken around
// 64 bits behind that.
func plainSpent(clock, since int64) int64 {
	spent := new(big.Int).Sub(big.NewInt(clock), big.NewInt(since))
	around := new(big.Int).Lsh(big.NewInt(1), 64)
	if spent.Cmp(big.NewInt(math.MaxInt64)) > 0 {
		spent.Sub(spent, around)
	}
	if spent.Cmp(big.NewInt(math.MinInt64)) < 0 {
		spent.Add(spent, around)
	}
	return spent.Int64()
}

// plainStep is the document's sentence, part by part.
func plainStep(d impl.Pod, at impl.PodAt, clock int64) int64 {
	if at.State == 0 && d.Hook > 0 {
		return 1
	}
	if at.State == 0 {
		return 2
	}
	if at.State == 1 && plainSpent(clock, at.Since) >= d.Hook {
		return 2
	}
	if at.State == 2 && plainSpent(clock, at.Since) >= d.Grace {
		return 3
	}
	if at.State == 3 {
		return 4
	}
	return at.State
}

func wantStep(t *testing.T, d impl.Pod, at impl.PodAt, clock, want int64) {
	t.Helper()
	if got := impl.PodStep(d, at, clock); got != want {
		t.Errorf("PodStep of %+v, %+v at %d is %d, not %d", d, at, clock, got, want)
	}
}

// wantAfter checks what an ended hook, and an exit, make of a state.
func wantAfter(t *testing.T, state, hook, exit int64) {
	t.Helper()
	if got := impl.AfterHook(state); got != hook {
		t.Errorf("AfterHook of %d is %d, not %d", state, got, hook)
	}
	if got := impl.AfterExit(state); got != exit {
		t.Errorf("AfterExit of %d is %d, not %d", state, got, exit)
	}
}

func TestPromise7EachState(t *testing.T) {
	d := impl.Pod{Group: 3, Band: 2, Grace: 4, Hook: 9}
	for _, c := range []struct{ state, early, middle, late int64 }{
		{impl.PdRunning, impl.PdHook, impl.PdHook, impl.PdHook},
		{impl.PdHook, impl.PdHook, impl.PdHook, impl.PdTerm},
		{impl.PdTerm, impl.PdTerm, impl.PdKill, impl.PdKill},
		{impl.PdKill, impl.PdStopped, impl.PdStopped, impl.PdStopped},
		{impl.PdStopped, impl.PdStopped, impl.PdStopped, impl.PdStopped},
		{impl.PdFailed, impl.PdFailed, impl.PdFailed, impl.PdFailed},
		{impl.PdEvicted, impl.PdEvicted, impl.PdEvicted, impl.PdEvicted},
	} {
		at := impl.PodAt{State: c.state, Since: 30}
		wantStep(t, d, at, 30, c.early)
		wantStep(t, d, at, 33, c.early)
		wantStep(t, d, at, 34, c.middle)
		wantStep(t, d, at, 38, c.middle)
		wantStep(t, d, at, 39, c.late)
		wantStep(t, d, at, 1000000, c.late)
	}
}

// What is no state, and what is down, stays what it is, though any time has
// gone by.
func TestPromise7WhatDoesNotGoOn(t *testing.T) {
	down := []int64{impl.PdStopped, impl.PdFailed, impl.PdEvicted}
	for _, state := range append(down, notStates()...) {
		for _, n := range []int64{math.MinInt64, -1, 0, 1, 500, math.MaxInt64} {
			for _, clock := range manyClocks() {
				wantStep(t, impl.Pod{Hook: n, Grace: n}, impl.PodAt{State: state}, clock, state)
				wantStep(t, impl.Pod{Hook: n}, impl.PodAt{State: state, Since: clock}, clock, state)
				wantStep(t, impl.Pod{Grace: n}, impl.PodAt{State: state, Since: clock}, 7, state)
			}
		}
	}
}

// Of a pod that runs it is asked only whether it has a hook: not how long it
// has run, and not what its grace is.
func TestPromise7Running(t *testing.T) {
	for _, c := range []struct{ hook, want int64 }{
		{0, impl.PdTerm}, {1, impl.PdHook}, {2, impl.PdHook}, {500, impl.PdHook}, {501, impl.PdHook},
		{math.MaxInt64, impl.PdHook}, {-1, impl.PdTerm}, {-500, impl.PdTerm},
		{math.MinInt64, impl.PdTerm}, {1 << 32, impl.PdHook}, {-1 << 32, impl.PdTerm},
	} {
		for _, grace := range []int64{math.MinInt64, -1, 0, 1, 500, math.MaxInt64} {
			d := impl.Pod{Hook: c.hook, Grace: grace}
			for _, since := range manyClocks() {
				for _, clock := range manyClocks() {
					wantStep(t, d, impl.PodAt{Since: since}, clock, c.want)
				}
			}
		}
	}
}

// wantWaits checks that a pod of this state goes on to next as soon as time has
// gone by, from since on, and not one tick ahead of that.
func wantWaits(t *testing.T, d impl.Pod, state, since, time, next int64) {
	t.Helper()
	at := impl.PodAt{State: state, Since: since}
	wantStep(t, d, at, since+time-1, state)
	wantStep(t, d, at, since+time, next)
	wantStep(t, d, at, since+time+1, next)
	wantStep(t, d, at, since+time+1000, next)
}

func TestPromise7HookAndGraceToTheTick(t *testing.T) {
	for _, time := range []int64{0, 1, 2, 3, 41, 499, 500, 501, 1000000, 1 << 32, -1, -500} {
		for _, other := range []int64{0, 1, 500, 1 << 40, math.MaxInt64, -1, math.MinInt64} {
			for _, since := range []int64{0, 1, 40, 500, 999500, 1000000, -1, -300, 1 << 32, -1 << 40} {
				wantWaits(t, impl.Pod{Hook: time, Grace: other}, impl.PdHook, since, time, impl.PdTerm)
				wantWaits(t, impl.Pod{Grace: time, Hook: other}, impl.PdTerm, since, time, impl.PdKill)
			}
		}
	}
}

// A hook, or a grace, of no time is over in the tick in which it began.
func TestPromise7NoHookAndNoGrace(t *testing.T) {
	for _, clock := range manyClocks() {
		wantStep(t, impl.Pod{}, impl.PodAt{Since: clock}, clock, impl.PdTerm)
		wantStep(t, impl.Pod{Grace: 500}, impl.PodAt{State: impl.PdHook, Since: clock}, clock, impl.PdTerm)
		wantStep(t, impl.Pod{Hook: 500}, impl.PodAt{State: impl.PdTerm, Since: clock}, clock, impl.PdKill)
	}
}

func TestPromise7Kill(t *testing.T) {
	for _, n := range []int64{math.MinInt64, -1, 0, 1, 500, math.MaxInt64} {
		for _, since := range manyClocks() {
			for _, clock := range manyClocks() {
				at := impl.PodAt{State: impl.PdKill, Since: since}
				wantStep(t, impl.Pod{Hook: n, Grace: n}, at, clock, impl.PdStopped)
			}
		}
	}
}

// Clock less Since is below 0 then: no hook and no grace that a plan can have
// is over.
func TestPromise7ClockBelowSince(t *testing.T) {
	for _, c := range []struct{ since, clock int64 }{
		{1, 0}, {40, 39}, {1000000, 0}, {0, -1}, {500, -500}, {math.MaxInt64, 0}, {-1, math.MinInt64}, {0, math.MinInt64},
	} {
		for _, time := range []int64{0, 1, 500} {
			d := impl.Pod{Hook: time, Grace: time}
			wantStep(t, d, impl.PodAt{State: impl.PdHook, Since: c.since}, c.clock, impl.PdHook)
			wantStep(t, d, impl.PodAt{State: impl.PdTerm, Since: c.since}, c.clock, impl.PdTerm)
		}
	}
	below := impl.Pod{Hook: -4, Grace: -7}
	wantWaits(t, below, impl.PdHook, 40, -4, impl.PdTerm)
	wantWaits(t, below, impl.PdTerm, 40, -7, impl.PdKill)
}

// Past the greatest number the reckoning goes on at the least one, and below
// the least one at the greatest.
func TestPromise7WrapsAround(t *testing.T) {
	const least, greatest = math.MinInt64, math.MaxInt64
	for _, c := range []struct{ since, clock, spent int64 }{
		{-1, greatest, least}, {-2, greatest, least + 1}, {least, 0, least}, {least, greatest, -1},
		{least, 1, least + 1}, {-501, greatest - 1, least + 499}, {least, greatest - 500, -501},
		{1, least, greatest}, {2, least, greatest - 1}, {greatest, least, 1}, {greatest, -2, greatest},
		{greatest, least + 499, 500}, {greatest - 6, least, 7}, {greatest, least + 1, 2},
	} {
		for _, time := range []int64{c.spent, 0, 1, 7, 499, 500, 501, greatest, least} {
			early, late := int64(impl.PdHook), int64(impl.PdTerm)
			if c.spent >= time {
				early, late = impl.PdTerm, impl.PdKill
			}
			wantStep(t, impl.Pod{Hook: time}, impl.PodAt{State: impl.PdHook, Since: c.since}, c.clock, early)
			wantStep(t, impl.Pod{Grace: time}, impl.PodAt{State: impl.PdTerm, Since: c.since}, c.clock, late)
		}
		if c.spent < greatest {
			wantStep(t, impl.Pod{Hook: c.spent + 1}, impl.PodAt{State: impl.PdHook, Since: c.since}, c.clock, impl.PdHook)
			wantStep(t, impl.Pod{Grace: c.spent + 1}, impl.PodAt{State: impl.PdTerm, Since: c.since}, c.clock, impl.PdTerm)
		}
	}
}

// goneThrough goes on, a tick each time, as long as that changes something
// within more ticks than a pod may take: the states in order, and how many
// ticks there were up to the last change.
func goneThrough(d impl.Pod, at impl.PodAt, clock int64) ([]int64, int64) {
	states, ticks := []int64{at.State}, int64(0)
	for tick := range d.Hook + d.Grace + 20 {
		clock++
		if next := impl.PodStep(d, at, clock); next != at.State {
			at = impl.PodAt{State: next, Since: clock}
			states, ticks = append(states, next), tick+1
		}
	}
	return states, ticks
}

// Each change takes a tick, the hook its Hook, and the grace its Grace, or one
// tick where that is 0, as a pod makes no two changes in one tick.
func wantDownInTime(t *testing.T, d impl.Pod, clock int64) {
	t.Helper()
	want, exact := []int64{impl.PdRunning, impl.PdHook, impl.PdTerm, impl.PdKill, impl.PdStopped}, 2+d.Hook+max(d.Grace, 1)
	if d.Hook == 0 {
		want = slices.Delete(want, 1, 2)
	}
	states, ticks := goneThrough(d, impl.PodAt{}, clock)
	if !slices.Equal(states, want) || ticks != exact || ticks > d.Hook+d.Grace+4 {
		t.Errorf("%+v goes through %v in %d ticks, not %v in %d", d, states, ticks, want, exact)
	}
}

func TestPromise7DownInTime(t *testing.T) {
	for hook := range int64(25) {
		for grace := range int64(25) {
			wantDownInTime(t, impl.Pod{Hook: hook, Grace: grace}, hook*grace)
		}
	}
	for _, time := range []int64{0, 1, 2, 250, 499, 500} {
		for _, other := range []int64{0, 1, 2, 250, 499, 500} {
			for _, clock := range []int64{0, 1, 500, 998995, math.MaxInt64 - 3} {
				wantDownInTime(t, impl.Pod{Hook: time, Grace: other}, clock)
			}
		}
	}
}

// Wherever a hook ends by itself, or the pod does, it takes no longer.
func TestPromise7DownInTimeWhenItEndsItself(t *testing.T) {
	for _, d := range []impl.Pod{{}, {Hook: 6}, {Grace: 5}, {Hook: 6, Grace: 5}, {Hook: 1, Grace: 1}} {
		for _, after := range []func(int64) int64{impl.AfterHook, impl.AfterExit} {
			for when := range d.Hook + d.Grace + 6 {
				at, last := impl.PodAt{}, int64(0)
				for clock := int64(1); clock < 40; clock++ {
					next := impl.PodStep(d, at, clock)
					if own := after(at.State); clock == when && own != -1 {
						next = own
					}
					if next != at.State {
						at, last = impl.PodAt{State: next, Since: clock}, clock
					}
				}
				if impl.Alive(at.State) || last > d.Hook+d.Grace+4 {
					t.Errorf("%+v, that ends itself at %d, is %d since %d", d, when, at.State, last)
				}
			}
		}
	}
}

// Pods of a band that go on together, each by the record of its step, are all
// down within the time of that band.
func TestPromise7ABandIsDownInItsTime(t *testing.T) {
	for seed := range int64(60) {
		p := podsPlan()
		for i := range 1 + seed%12 {
			n := seed*7919 + i*104729
			p.Pods = append(p.Pods, impl.Pod{Band: 3, Hook: n % 31, Grace: n * n % 23})
		}
		p.Pods[0].Hook, p.Pods[seed%int64(len(p.Pods))].Grace = 0, 0
		s := impl.NewState(p)
		for clock := range impl.BandTime(p, 3) {
			recs := []impl.Rec{{Kind: impl.RcClock, A: clock + 1}}
			for i, d := range p.Pods {
				if next := impl.PodStep(d, s.Pods[i], clock+1); next != s.Pods[i].State {
					recs = append(recs, impl.Rec{Kind: impl.RcPod, A: int64(i), B: next})
				}
			}
			made, ok := impl.AppliedAll(p, s, recs)
			if !ok {
				t.Fatalf("%v are not applied to %+v", recs, s)
			}
			s = made
		}
		if slices.ContainsFunc(s.Pods, func(at impl.PodAt) bool { return at.State != impl.PdStopped }) {
			t.Errorf("of %+v there are left %+v", p.Pods, s.Pods)
		}
	}
}

func TestPromise7AfterHookAndExit(t *testing.T) {
	wantAfter(t, impl.PdRunning, -1, impl.PdFailed)
	wantAfter(t, impl.PdHook, impl.PdTerm, impl.PdFailed)
	wantAfter(t, impl.PdTerm, -1, impl.PdStopped)
	wantAfter(t, impl.PdKill, -1, impl.PdStopped)
	wantAfter(t, impl.PdStopped, -1, -1)
	wantAfter(t, impl.PdFailed, -1, -1)
	wantAfter(t, impl.PdEvicted, -1, -1)
	for _, n := range notStates() {
		wantAfter(t, n, -1, -1)
	}
}

// Pods of any numbers, at any clock, against the document's sentence; most of
// the clocks are near the end of a hook or a grace.
func TestPromise7MadePods(t *testing.T) {
	numbers := append(someNumbers(), 40, 41, 499, 500, 501, 1000000)
	many := int64(len(numbers))
	for seed := range int64(200000) {
		pick := func(prime int64) int64 { return numbers[(seed*seed+seed*prime)/7%many] }
		d := impl.Pod{Group: pick(11), Band: pick(13), Hook: pick(17), Grace: pick(19)}
		at := impl.PodAt{State: seed % 9, Since: pick(23)}
		for _, clock := range []int64{pick(29), at.Since + d.Hook + seed%3 - 1, at.Since + d.Grace + seed%3 - 1} {
			wantStep(t, d, at, clock, plainStep(d, at, clock))
		}
	}
}
