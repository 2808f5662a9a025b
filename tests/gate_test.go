package tests

import (
	"math"
	"testing"

	"loop.example/g00072/impl"
)

func TestLimitsOfTheGate(t *testing.T) {
	if limits := [4]int{impl.MaxWait, impl.GateGo, impl.GateBad, impl.GateUnsure}; limits != [4]int{400, 0, 1, 2} {
		t.Error(limits)
	}
}

func checkSpan(t *testing.T, now impl.Ival, d impl.Drift, long int, want pairAnswer) {
	t.Helper()
	a, ok := impl.GateSpan(now, d, long)
	if got := (pairAnswer{a, ok}); got != want {
		t.Fatalf("GateSpan(%v, %v, %d): got %v, want %v", now, d, long, got, want)
	}
}

func checkGate(t *testing.T, q question, want gateAnswer) {
	t.Helper()
	if got := q.ask(); got != want {
		t.Fatalf("GateAsk(%v): got %v, want %v", q, got, want)
	}
}

func checkBusy(t *testing.T, d impl.Drift, sent, long, count int, want bool) {
	t.Helper()
	if got := impl.BusyStill(d, sent, long, count); got != want {
		t.Fatalf("BusyStill(%v, %d, %d, %d) is %v", d, sent, long, count, got)
	}
}

func checkWait(t *testing.T, w waiting, want numAnswer) {
	t.Helper()
	if got := w.wait(); got != want {
		t.Fatalf("GateWait(%v): got %v, want %v", w, got, want)
	}
}

func checkBudget(t *testing.T, p impl.Plan, owner int, d impl.Drift, long int, want numAnswer) {
	t.Helper()
	n, ok := impl.GateBudget(p, owner, d, long)
	if got := (numAnswer{n, ok}); got != want {
		t.Fatalf("GateBudget(%v, %d, %v, %d): got %v, want %v", p, owner, d, long, got, want)
	}
}

func goes(slot, round int) gateAnswer { return gateAnswer{slot, round, impl.GateGo} }

func notSure() gateAnswer { return gateAnswer{code: impl.GateUnsure} }

func notAsked() gateAnswer { return gateAnswer{code: impl.GateBad} }

func waits(n int) numAnswer { return numAnswer{n, true} }

// What a frame may reach over at most: Lo stays, and Hi is raised by the most time of its counts.
func TestSpansAtTheirLimits(t *testing.T) {
	d, still, half := dr(1, 4), dr(0, 1), dr(1, 2)
	cases := []struct {
		now  impl.Ival
		d    impl.Drift
		long int
		want pairAnswer
	}{
		{iv(1, 2), d, 3, occurs(1, 6)},
		{iv(1, 2), d, 1, occurs(1, 3)},
		{iv(1, 2), d, 2, occurs(1, 4)},
		{iv(1, 2), d, 0, pairAnswer{}},
		{iv(1, 2), d, -1, pairAnswer{}},
		{iv(1, 2), still, 1, occurs(1, 3)},
		{iv(5, 5), half, 1, occurs(5, 7)},
		{iv(5, 5), half, 7, occurs(5, 19)},
		{iv(-9, -4), d, 10, occurs(-9, 9)},
		{iv(-9, -4), still, 3, occurs(-9, -1)},
		{iv(0, 0), still, far, occurs(0, far)},
		{iv(-3, 0), still, far, occurs(-3, far)},
		{iv(0, 1), still, far, pairAnswer{}},
		{iv(-far, -far), still, far, occurs(-far, 0)},
		{iv(-far, -far), still, far + 1, pairAnswer{}},
		{iv(-far, -far), still, math.MaxInt, pairAnswer{}},
		{iv(-far, -far), still, math.MinInt, pairAnswer{}},
		{iv(-far, 0), still, far, occurs(-far, far)},
		// The most time is just still a time, and no more, though what comes would be an interval.
		{iv(-far, -far), half, far / 2, occurs(-far, 0)},
		{iv(-far, -far), half, far/2 + 1, pairAnswer{}},
		{iv(-far, -far), dr(1, impl.MaxDen), far, pairAnswer{}},
		{iv(-far, -far), dr(0, impl.MaxDen), far, occurs(-far, 0)},
		// What comes ends at MaxTime, and one behind it.
		{iv(0, far-1), still, 1, occurs(0, far)},
		{iv(0, far), still, 1, pairAnswer{}},
		{iv(far-1, far-1), still, 1, occurs(far-1, far)},
		{iv(far, far), still, 1, pairAnswer{}},
		{iv(-far, far), still, 1, pairAnswer{}},
		{iv(0, far-4), d, 3, occurs(0, far)},
		{iv(0, far-3), d, 3, pairAnswer{}},
		{iv(-far, far-2), half, 1, occurs(-far, far)},
		{iv(-far, far-1), half, 1, pairAnswer{}},
	}
	for _, c := range cases {
		checkSpan(t, c.now, c.d, c.long, c.want)
	}
	for _, long := range []int{1, 5, far} {
		for _, wrong := range wrongSources() {
			checkSpan(t, wrong, still, long, pairAnswer{})
		}
		for _, wrong := range wrongDrifts() {
			checkSpan(t, iv(-far, -far), wrong, long, pairAnswer{})
			checkSpan(t, iv(1, 2), wrong, long, pairAnswer{})
		}
	}
	for _, wrong := range wrongLongs() {
		checkSpan(t, iv(1, 2), still, wrong, pairAnswer{})
	}
}

func asked(lo, hi int, d impl.Drift, long int, p impl.Plan, owner int) question {
	return question{iv(lo, hi), true, d, long, p, owner}
}

// Of 10 .. 15, 17 .. 20, 22 .. 27, 29 .. 32 and so on, which are 0's and 1's by turns.
func TestGateAtTheEndsOfSlots(t *testing.T) {
	p := planOf(10, 2, sl(0, 5), sl(1, 3))
	d, still, half := dr(1, 4), dr(0, 1), dr(1, 2)
	cases := []struct {
		lo, hi int
		d      impl.Drift
		long   int
		owner  int
		want   gateAnswer
	}{
		{10, 13, still, 2, 0, goes(0, 0)},
		{10, 14, still, 2, 0, notSure()},
		{9, 13, still, 2, 0, notSure()},
		{9, 9, still, 2, 0, notSure()},
		{10, 10, still, 2, 0, goes(0, 0)},
		{13, 13, still, 2, 0, goes(0, 0)},
		{14, 14, still, 2, 0, notSure()},
		{14, 14, still, 1, 0, goes(0, 0)},
		{15, 15, still, 1, 0, notSure()},
		{16, 16, still, 1, 0, notSure()},
		{10, 10, still, 5, 0, goes(0, 0)},
		{10, 11, still, 5, 0, notSure()},
		{11, 11, still, 5, 0, notSure()},
		{10, 10, still, 6, 0, notSure()},
		{41, 42, still, 2, 1, goes(1, 2)},
		{41, 43, still, 2, 1, notSure()},
		{40, 42, still, 2, 1, notSure()},
		{41, 42, still, 2, 0, notSure()},
		{41, 42, still, 2, 7, notSure()},
		// What it may reach over comes from the slowest oscillator.
		{17, 18, half, 1, 1, goes(1, 0)},
		{17, 19, half, 1, 1, notSure()},
		{22, 23, d, 3, 0, goes(0, 1)},
		{22, 24, d, 3, 0, notSure()},
		{21, 23, d, 3, 0, notSure()},
		{23, 23, d, 3, 0, goes(0, 1)},
		{22, 22, d, 4, 0, goes(0, 1)},
		{22, 22, d, 5, 0, notSure()},
		// Ahead of Start, and ahead of 0.
		{0, 0, still, 1, 0, notSure()},
		{-2, -2, still, 1, 0, notSure()},
		{-far, -far, still, 1, 0, notSure()},
		{-far, 13, still, 2, 0, notSure()},
		{-2, 13, still, 2, 0, notSure()},
	}
	for _, c := range cases {
		checkGate(t, asked(c.lo, c.hi, c.d, c.long, p, c.owner), c.want)
	}
}

// Two slots of one owner that touch are still two, and what may reach over both goes in none.
func TestGateOverTwoOwnSlots(t *testing.T) {
	p, still := planOf(10, 0, sl(0, 5), sl(0, 5)), dr(0, 1)
	for lo, want := range map[int]gateAnswer{10: goes(0, 0), 13: goes(0, 0), 14: notSure(), 15: goes(1, 0), 18: goes(1, 0), 19: notSure(), 20: goes(0, 1), 23: goes(0, 1), 24: notSure(), 25: goes(1, 1)} {
		checkGate(t, asked(lo, lo, still, 2, p, 0), want)
	}
	checkGate(t, asked(15, 18, still, 2, p, 0), goes(1, 0))
	checkGate(t, asked(14, 18, still, 2, p, 0), notSure())
	checkGate(t, asked(10, 10, still, 6, p, 0), notSure())
	checkGate(t, asked(0, 1, still, 1, planOf(0, 0, sl(3, 2)), 3), goes(0, 0))
	checkGate(t, asked(0, 2, still, 1, planOf(0, 0, sl(3, 2)), 3), notSure())
}

func TestGateAtTheEndOfTime(t *testing.T) {
	still, half := dr(0, 1), dr(1, 2)
	p := planOf(0, 0, sl(0, 10))
	last := far/10 - 1
	checkGate(t, asked(far-10, far-2, still, 2, p, 0), goes(0, last))
	checkGate(t, asked(far-10, far-1, still, 2, p, 0), notSure())
	checkGate(t, asked(far-10, far-1, still, 1, p, 0), goes(0, last))
	checkGate(t, asked(far-1, far-1, still, 1, p, 0), goes(0, last))
	checkGate(t, asked(far-10, far, still, 1, p, 0), notSure())
	checkGate(t, asked(far, far, still, 1, p, 0), notSure())
	checkGate(t, asked(far-10, far-2, half, 1, p, 0), goes(0, last))
	checkGate(t, asked(far-10, far-1, half, 1, p, 0), notSure())
	// An occurrence that would end one behind MaxTime is none, also for what ends ahead of it.
	late := planOf(1, 0, sl(0, 10))
	checkGate(t, asked(far-9, far-9, still, 1, late, 0), notSure())
	checkGate(t, asked(far-10, far-10, still, 1, late, 0), goes(0, last-1))
	checkGate(t, asked(far-1, far-1, still, 1, planOf(far-1, 0, sl(0, 1)), 0), goes(0, 0))
	checkGate(t, asked(far-1, far-1, still, 1, planOf(far-1, 0, sl(0, 2)), 0), notSure())
	checkGate(t, asked(far, far, still, 1, planOf(far, 0, sl(0, 1)), 0), notSure())
}

func TestGateOfLengths(t *testing.T) {
	p := planOf(0, impl.MaxGap, sl(0, impl.MaxLong))
	still, half := dr(0, 1), dr(1, 2)
	for long, want := range map[int]gateAnswer{
		math.MinInt: notAsked(), -1: notAsked(), 0: notAsked(), 1: goes(0, 0), 2: goes(0, 0),
		impl.MaxLong - 1: goes(0, 0), impl.MaxLong: goes(0, 0), impl.MaxLong + 1: notSure(),
		far - 1: notSure(), far: notSure(), far + 1: notAsked(), math.MaxInt: notAsked(),
	} {
		checkGate(t, asked(0, 0, still, long, p, 0), want)
	}
	// The most time is above MaxTime from just above half of it on; that is no fault of the length.
	for long, want := range map[int]gateAnswer{
		0: notAsked(), 1: goes(0, 0), impl.MaxLong / 2: goes(0, 0), impl.MaxLong/2 + 1: notSure(),
		far / 2: notSure(), far/2 + 1: notSure(), far: notSure(), far + 1: notAsked(),
	} {
		checkGate(t, asked(0, 0, half, long, p, 0), want)
	}
}

func TestGateWhereNothingIsKnown(t *testing.T) {
	p, still := planOf(10, 2, sl(0, 5), sl(1, 3)), dr(0, 1)
	for _, now := range append(append(rightSources(), wrongSources()...), iv(10, 11), iv(10, 13), iv(41, 42), iv(42, 41)) {
		for owner := range impl.MaxNodes {
			checkGate(t, question{now, false, still, 2, p, owner}, notSure())
		}
	}
	checkGate(t, question{iv(10, 11), true, still, 2, p, 0}, goes(0, 0))
}

// What can be wrong with a question that is asked else rightly, in each of its ways.
func faults() map[string][]func(*question) {
	all := map[string][]func(*question){}
	for _, wrong := range wrongSources() {
		all["interval"] = append(all["interval"], func(q *question) { q.now = wrong })
	}
	for _, wrong := range wrongDrifts() {
		all["drift"] = append(all["drift"], func(q *question) { q.d = wrong })
	}
	for _, wrong := range wrongLongs() {
		all["long"] = append(all["long"], func(q *question) { q.long = wrong })
	}
	for _, wrong := range wrongPlans() {
		all["plan"] = append(all["plan"], func(q *question) { q.p = wrong })
	}
	for _, wrong := range noNodes() {
		all["owner"] = append(all["owner"], func(q *question) { q.owner = wrong })
	}
	return all
}

// Questions that are asked rightly: one that goes, and one for each way of being unsure.
func rightQuestions() map[string]question {
	p := planWith(impl.MaxSlots)
	return map[string]question{
		"goes":          asked(40, 42, dr(0, 1), 2, p, 0),
		"not known":     {iv(40, 42), false, dr(0, 1), 2, p, 0},
		"beyond":        asked(40, far-1, dr(0, 1), 2, p, 0),
		"no time":       asked(40, 42, dr(1, 2), far, p, 0),
		"too wide":      asked(40, 43, dr(0, 1), 2, p, 0),
		"another's":     asked(40, 42, dr(0, 1), 2, p, 5),
		"none's":        asked(40, 42, dr(0, 1), 2, planOf(40, 3, sl(5, 4)), 0),
		"no occurrence": asked(far, far, dr(0, 1), 2, planOf(far, 0, sl(0, 9)), 0),
	}
}

// GateBad comes ahead of GateUnsure in each of its ways, and in all of them together.
func TestFaultsComeFirst(t *testing.T) {
	for how, q := range rightQuestions() {
		want := notSure()
		if how == "goes" {
			want = goes(0, 0)
		}
		checkGate(t, q, want)
		for what, ways := range faults() {
			want := notAsked()
			// Of what is not known no interval is looked at.
			if what == "interval" && how == "not known" {
				want = notSure()
			}
			for _, change := range ways {
				wrong := q
				change(&wrong)
				checkGate(t, wrong, want)
			}
		}
		all := q
		for _, ways := range faults() {
			for _, change := range ways {
				change(&all)
			}
		}
		checkGate(t, all, notAsked())
		// One alone may be right.
		for _, right := range []func(*question){
			func(w *question) { w.now = q.now }, func(w *question) { w.d = q.d }, func(w *question) { w.long = q.long },
			func(w *question) { w.p = q.p }, func(w *question) { w.owner = q.owner },
		} {
			wrong := all
			right(&wrong)
			checkGate(t, wrong, notAsked())
		}
	}
}

func TestGateOfOwners(t *testing.T) {
	p, still := planOf(10, 2, sl(0, 5), sl(1, 3)), dr(0, 1)
	for owner, want := range map[int]gateAnswer{
		math.MinInt: notAsked(), -1: notAsked(), 0: goes(0, 0), 1: notSure(), 2: notSure(),
		impl.MaxNodes - 1: notSure(), impl.MaxNodes: notAsked(), math.MaxInt: notAsked(),
	} {
		checkGate(t, asked(10, 12, still, 2, p, owner), want)
		if want != notAsked() {
			want = notSure()
		}
		checkGate(t, asked(16, 16, still, 2, p, owner), want)
		checkGate(t, question{iv(10, 12), false, still, 2, p, owner}, want)
	}
}

func TestBusyAtItsLimits(t *testing.T) {
	d, still, half := dr(1, 4), dr(0, 1), dr(1, 2)
	cases := []struct {
		d                 impl.Drift
		sent, long, count int
		want              bool
	}{
		// A frame of 3 counts takes at most 4; 3 counts take at least 3, 4 and 5 at least 4, 6 at least 5.
		{d, 0, 3, 0, true}, {d, 0, 3, 1, true}, {d, 0, 3, 3, true}, {d, 0, 3, 4, false}, {d, 0, 3, 5, false}, {d, 0, 3, 6, false},
		{d, 50, 3, 49, true}, {d, 50, 3, 50, true}, {d, 50, 3, 51, true}, {d, 50, 3, 53, true}, {d, 50, 3, 54, false}, {d, 50, 3, 0, true},
		{still, 5, 3, 7, true}, {still, 5, 3, 8, false}, {still, 5, 3, 9, false},
		{still, 5, 1, 5, true}, {still, 5, 1, 6, false},
		{half, 5, 1, 6, true}, {half, 5, 1, 7, false}, {half, 5, 1, 8, false},
		{half, 0, 10, 28, true}, {half, 0, 10, 29, false}, {half, 0, 10, 30, false},
		// Each number at its ends and one beyond.
		{still, 0, 1, 0, true}, {still, 0, 1, 1, false}, {still, 0, 1, far, false}, {still, far - 1, 1, far, false}, {still, far, 1, far, true},
		{still, -1, 1, 0, true}, {still, -1, 1, far, true}, {still, 0, 1, far + 1, true}, {still, far, 1, far + 1, true}, {still, far + 1, 1, far + 1, true},
		{still, far + 1, 1, far, true}, {still, 0, 1, -1, true}, {still, -1, 1, -1, true}, {still, -2, 1, -1, true},
		{still, math.MinInt, 1, math.MaxInt, true}, {still, math.MaxInt, 1, math.MinInt, true}, {still, math.MinInt, 1, far, true}, {still, 0, 1, math.MaxInt, true},
		{still, 0, 0, far, true}, {still, 0, -1, far, true}, {still, 0, far + 1, far, true}, {still, 0, math.MinInt, far, true}, {still, 0, math.MaxInt, far, true},
		{still, 0, far, far - 1, true}, {still, 0, far, far, false}, {still, 1, far, far, true}, {still, 0, far - 1, far, false},
		// The most time is no time any more, and just still one.
		{half, 0, far, far, true}, {half, 0, far/2 + 1, far, true}, {half, 0, far / 2, far, true}, {half, 0, far / 3, far, false}, {half, 0, far/3 + 1, far, true},
		{half, 0, far/2 + 1, 0, true}, {dr(1, impl.MaxDen), 0, far, far, true},
	}
	for _, c := range cases {
		checkBusy(t, c.d, c.sent, c.long, c.count, c.want)
	}
	for _, wrong := range wrongDrifts() {
		for _, count := range []int{0, 1, 1000, far} {
			checkBusy(t, wrong, 0, 1, count, true)
		}
	}
	for _, wrong := range wrongLongs() {
		checkBusy(t, still, 0, wrong, far, true)
	}
}

// A wait from 15 .. 16 on, in counts that are times, until 17 .. 18 is known: two counts.
func waitFor(p impl.Plan) waiting {
	return waiting{l: loc(15, 16, 7), d: dr(0, 1), long: 2, p: p, owner: 1, count: 7, most: 9}
}

func TestWaitsAtTheirLimits(t *testing.T) {
	w := waitFor(planOf(10, 2, sl(0, 5), sl(1, 3)))
	checkWait(t, w, waits(2))
	for most, want := range map[int]numAnswer{
		math.MinInt: {}, -1: {}, 0: {}, 1: {}, 2: waits(2), 3: waits(2), impl.MaxWait - 1: waits(2), impl.MaxWait: waits(2), impl.MaxWait + 1: {}, math.MaxInt: {},
	} {
		at := w
		at.most = most
		checkWait(t, at, want)
	}
	// From a later count on there is less to wait, until the next slot must come.
	for count, want := range map[int]numAnswer{8: waits(1), 9: waits(0), 10: {}, 11: {}, 12: waits(9), 13: waits(8), 20: waits(1), 21: waits(0), 22: {}} {
		at := w
		at.count = count
		checkWait(t, at, want)
	}
	at := w
	at.count, at.most = 9, 0
	checkWait(t, at, waits(0))
	at.count = 8
	checkWait(t, at, numAnswer{})
	at.most = 1
	checkWait(t, at, waits(1))
}

// A slot that comes behind just as many counts as may be waited at most, and one later.
func TestTheLongestWaits(t *testing.T) {
	for _, most := range []int{0, 1, 57, impl.MaxWait - 1, impl.MaxWait} {
		w := waiting{l: loc(0, 0, 0), d: dr(0, 1), long: 2, p: planOf(most, 0, sl(1, 5)), owner: 1, count: 0, most: most}
		checkWait(t, w, waits(most))
		w.p.Start++
		checkWait(t, w, numAnswer{})
	}
	w := waiting{l: loc(0, 0, 0), d: dr(0, 1), long: 2, p: planOf(0, 0, sl(1, 5)), owner: 1, count: 0, most: impl.MaxWait}
	checkWait(t, w, waits(0))
	// One more than may be waited is refused, also where nothing has to be waited for.
	w.most++
	checkWait(t, w, numAnswer{})
}

// As counts go on what is known gets wider, and too wide for any slot in the end.
func TestWaitsThatWiden(t *testing.T) {
	w := waiting{l: loc(0, 0, 0), d: dr(1, 2), long: 1, p: planOf(4, 0, sl(1, 10), sl(2, 10)), owner: 1, count: 0, most: impl.MaxWait}
	checkWait(t, w, waits(5))
	// Behind 5 counts it is 4 .. 10, and what the frame may reach over 4 .. 12.
	w.p.Slots[0].Long = 8
	checkWait(t, w, waits(5))
	w.p.Slots[0].Long = 7
	checkWait(t, w, numAnswer{})
}

// What can't be carried on at a count is not waited for there, but may be at a later one.
func TestWaitsWithoutCarryingOn(t *testing.T) {
	still, half := dr(0, 1), dr(1, 2)
	p := planOf(10, 0, sl(1, 5), sl(0, 5))
	last := planOf(far-10, 0, sl(1, 5), sl(0, 5))
	cases := []struct {
		name string
		w    waiting
		want numAnswer
	}{
		// The count is still behind what is known.
		{"back", waiting{loc(10, 10, 20), still, 2, p, 1, 15, 5}, waits(5)},
		{"back for one count too many", waiting{loc(10, 10, 20), still, 2, p, 1, 15, 4}, numAnswer{}},
		{"back by as much as may be", waiting{loc(10, 10, impl.MaxWait), still, 2, p, 1, 0, impl.MaxWait}, waits(impl.MaxWait)},
		{"back by one more", waiting{loc(10, 10, impl.MaxWait+1), still, 2, p, 1, 0, impl.MaxWait}, numAnswer{}},
		{"back, and then too early", waiting{loc(7, 7, 20), still, 2, p, 1, 15, 9}, waits(8)},
		// Counts end at MaxTime.
		{"at the last count", waiting{loc(10, 10, far), still, 2, p, 1, far, 9}, waits(0)},
		{"at the last count, in vain", waiting{loc(9, 9, far), still, 2, p, 1, far, 9}, numAnswer{}},
		{"up to the last count", waiting{loc(9, 9, far-1), still, 2, p, 1, far - 1, 9}, waits(1)},
		{"beyond the last count", waiting{loc(8, 8, far-1), still, 2, p, 1, far - 1, 9}, numAnswer{}},
		{"back at the last count", waiting{loc(10, 10, far), still, 2, p, 1, far - 3, 3}, waits(3)},
		{"at the first count", waiting{loc(10, 10, 0), still, 2, p, 1, 0, 9}, waits(0)},
		{"one below the first count", waiting{loc(10, 10, 0), still, 2, p, 1, -1, 9}, numAnswer{}},
		{"one beyond the last count", waiting{loc(10, 10, far), still, 2, p, 1, far + 1, 9}, numAnswer{}},
		{"the least int", waiting{loc(10, 10, 0), still, 2, p, 1, math.MinInt, 9}, numAnswer{}},
		{"the greatest int", waiting{loc(10, 10, far), still, 2, p, 1, math.MaxInt, 9}, numAnswer{}},
		// Bounds end at MaxTime.
		{"up to the last slot", waiting{loc(far-12, far-12, 0), still, 2, last, 1, 0, impl.MaxWait}, waits(2)},
		{"behind the last slot", waiting{loc(far-3, far-3, 0), still, 2, last, 1, 0, impl.MaxWait}, numAnswer{}},
		{"over at once", waiting{loc(far, far, 0), still, 2, last, 1, 1, impl.MaxWait}, numAnswer{}},
		{"over by its times", waiting{loc(-far, -far, 0), half, 2, p, 1, far/2 + 1, 9}, numAnswer{}},
		{"nothing known", waiting{impl.Local{}, still, 2, p, 1, 0, impl.MaxWait}, numAnswer{}},
		{"nothing known, nothing waited", waiting{impl.Local{}, still, 2, planOf(0, 0, sl(1, 5)), 1, 0, 0}, numAnswer{}},
		{"no slot", waiting{loc(10, 10, 0), still, 2, p, 2, 0, impl.MaxWait}, numAnswer{}},
		{"too long", waiting{loc(10, 10, 0), still, 6, p, 1, 0, impl.MaxWait}, numAnswer{}},
		{"just as long", waiting{loc(11, 11, 0), still, 5, p, 1, 0, impl.MaxWait}, waits(9)},
	}
	for _, c := range cases {
		if got := c.w.wait(); got != c.want {
			t.Errorf("%s: GateWait(%v): got %v, want %v", c.name, c.w, got, c.want)
		}
	}
}

// What is wrong stays so, however long is waited.
func TestWaitsOfWhatIsWrong(t *testing.T) {
	right := waiting{loc(40, 41, 7), dr(0, 1), 2, planWith(impl.MaxSlots), 0, 7, impl.MaxWait}
	checkWait(t, right, waits(0))
	for _, most := range []int{0, impl.MaxWait} {
		for what, ways := range faults() {
			for _, change := range ways {
				q := question{d: right.d, long: right.long, p: right.p, owner: right.owner, now: right.l.Bound}
				change(&q)
				w := waiting{impl.Local{Known: true, Bound: q.now, At: 7}, q.d, q.long, q.p, q.owner, 7, most}
				if got := w.wait(); got != (numAnswer{}) {
					t.Fatalf("%s: GateWait(%v): %v", what, w, got)
				}
			}
		}
		for _, wrong := range wrongLocals() {
			w := right
			w.l, w.most = wrong, most
			checkWait(t, w, numAnswer{})
		}
	}
}

func TestBudgetsAtTheirLimits(t *testing.T) {
	d, still, half := dr(1, 4), dr(0, 1), dr(1, 2)
	p := planOf(10, 2, sl(0, 5), sl(1, 3))
	many := planOf(0, 4, sl(2, 1), sl(2, 6), sl(5, 1), sl(2, 2))
	widest := planOf(0, 0, sl(0, impl.MaxLong))
	cases := []struct {
		p     impl.Plan
		owner int
		d     impl.Drift
		long  int
		want  numAnswer
	}{
		{p, 1, still, 2, numAnswer{1, true}},
		{p, 1, still, 3, numAnswer{0, true}},
		{p, 1, still, 4, numAnswer{}},
		{p, 0, still, 1, numAnswer{4, true}},
		{p, 0, d, 3, numAnswer{1, true}},
		{p, 0, d, 4, numAnswer{0, true}},
		{p, 0, d, 5, numAnswer{}},
		{p, 0, half, 2, numAnswer{1, true}},
		{p, 0, half, 3, numAnswer{}},
		{p, 2, still, 1, numAnswer{}},
		{p, 7, still, 1, numAnswer{}},
		// Its longest slot is neither the first nor the last, and not the longest of all.
		{many, 2, still, 1, numAnswer{5, true}},
		{many, 2, still, 6, numAnswer{0, true}},
		{many, 2, still, 7, numAnswer{}},
		{many, 2, half, 3, numAnswer{0, true}},
		{many, 2, half, 4, numAnswer{}},
		{many, 5, still, 1, numAnswer{0, true}},
		{many, 5, still, 2, numAnswer{}},
		{planOf(0, 0, sl(2, 3), sl(1, 9), sl(2, 4)), 2, still, 1, numAnswer{3, true}},
		{planOf(0, 0, sl(2, 4), sl(1, 9), sl(2, 3)), 2, still, 1, numAnswer{3, true}},
		{widest, 0, still, 1, numAnswer{impl.MaxLong - 1, true}},
		{widest, 0, still, impl.MaxLong, numAnswer{0, true}},
		{widest, 0, still, impl.MaxLong + 1, numAnswer{}},
		{widest, 0, half, impl.MaxLong / 2, numAnswer{0, true}},
		{widest, 0, half, impl.MaxLong/2 + 1, numAnswer{}},
		{widest, 0, still, far, numAnswer{}},
		{widest, 0, half, far, numAnswer{}},
		// Also where its slots come too late to be told.
		{planOf(far, 0, sl(3, 5)), 3, still, 1, numAnswer{4, true}},
	}
	for _, c := range cases {
		checkBudget(t, c.p, c.owner, c.d, c.long, c.want)
	}
	for _, wrong := range wrongDrifts() {
		checkBudget(t, widest, 0, wrong, 1, numAnswer{})
	}
	for _, wrong := range wrongLongs() {
		checkBudget(t, widest, 0, still, wrong, numAnswer{})
	}
	for _, wrong := range noNodes() {
		checkBudget(t, p, wrong, still, 1, numAnswer{})
	}
	for _, wrong := range wrongPlans() {
		for _, owner := range []int{-1, 0, 1, 2, 5, 7, 8, math.MinInt, math.MaxInt} {
			checkBudget(t, wrong, owner, still, 1, numAnswer{})
		}
	}
}

// Every function of the chapter at every mixture of right and wrong numbers around its limits (P23).
func TestGateAtItsLimitsAsTheDocumentSays(t *testing.T) {
	numbers := []int{math.MinInt, -far - 1, -far, -1, 0, 1, 2, far/2 - 1, far / 2, far/2 + 1, far - 1, far, far + 1, math.MaxInt}
	plans := []impl.Plan{planOf(0, 0, sl(1, 1), sl(0, 2)), planOf(far-3, 0, sl(0, 2), sl(1, 1)), planOf(1, 0, sl(2, impl.MaxLong)), {}, planOf(0, 0, sl(8, 3))}
	nows := append(ivalsOf(numbers), iv(far-3, far-2), iv(far-1, far-1))
	for _, d := range mixedDrifts() {
		for _, long := range numbers {
			lasts := wantLasts(d, long)
			for _, now := range nows {
				checkSpan(t, now, d, long, wantSpanBy(now, lasts))
			}
			for _, p := range plans {
				for _, owner := range []int{math.MinInt, -1, 0, 1, 2, 7, 8, math.MaxInt} {
					checkBudget(t, p, owner, d, long, wantGateBudget(p, owner, d, long))
				}
			}
		}
	}
	for _, p := range plans {
		for _, now := range nows {
			near := occurrencesNear(p, now.Lo)
			for _, d := range []impl.Drift{dr(0, 1), dr(1, 2), dr(3, 4), {}} {
				for _, long := range []int{math.MinInt, 0, 1, 2, far / 2, far/2 + 1, far, far + 1} {
					lasts := wantLasts(d, long)
					for _, owner := range []int{-1, 0, 1, 2, 7, 8} {
						for _, known := range []bool{true, false} {
							q := question{now, known, d, long, p, owner}
							checkGate(t, q, wantGateAskBy(q, lasts, near))
						}
					}
				}
			}
		}
	}
}

func TestBusyAsTheDocumentSays(t *testing.T) {
	numbers := []int{math.MinInt, -1, 0, 1, 2, 3, far / 3, far / 2, far/2 + 1, far - 1, far, far + 1, math.MaxInt}
	for _, d := range mixedDrifts() {
		for _, long := range numbers {
			for _, sent := range numbers {
				for _, count := range numbers {
					checkBusy(t, d, sent, long, count, wantBusyStill(d, sent, long, count))
				}
			}
		}
	}
	for _, d := range smallDrifts(5) {
		for long := range 8 {
			for gone := -2; gone < 26; gone++ {
				checkBusy(t, d, 30, long, 30+gone, wantBusyStill(d, 30, long, 30+gone))
			}
		}
	}
}

// Lengths that fit into the slots of a plan with room left, just, and not.
func longsFor(p impl.Plan, draw *lottery) []int {
	s := p.Slots[draw.number(len(p.Slots))]
	return []int{1, 1 + draw.number(s.Long), max(1, s.Long/2), max(1, s.Long-1), s.Long, s.Long + 1}
}

func TestGateOfPlansAsTheDocumentSays(t *testing.T) {
	draw := &lottery{state: 14}
	seen := map[int]int{}
	drifts := rightDrifts()
	for n, p := range manyPlans(draw, 20) {
		d := drifts[n%len(drifts)]
		longs := longsFor(p, draw)
		var lasts []numAnswer
		for _, long := range longs {
			lasts = append(lasts, wantLasts(d, long))
			for owner := range impl.MaxNodes {
				checkBudget(t, p, owner, d, long, wantGateBudget(p, owner, d, long))
			}
		}
		for _, at := range timesOf(p) {
			near := occurrencesNear(p, at)
			for i, long := range longs {
				owner := p.Slots[draw.number(len(p.Slots))].Owner
				for _, wide := range []int{0, draw.number(4)} {
					q := question{impl.Ival{Lo: at, Hi: at + wide}, draw.number(20) > 0, d, long, p, owner}
					want := wantGateAskBy(q, lasts[i], near)
					checkGate(t, q, want)
					seen[want.code]++
				}
			}
		}
	}
	if seen[impl.GateGo] < 1000 || seen[impl.GateUnsure] < 1000 || seen[impl.GateBad] < 100 {
		t.Fatal("too few", seen)
	}
}

// A wait for some slot of a plan, often a short one, sometimes where time or counts end.
func (l *lottery) waiting(p impl.Plan) waiting {
	if l.number(3) == 0 {
		p.Start = far - l.number(60)
	}
	drifts := []impl.Drift{dr(0, 1), dr(1, impl.MaxDen), dr(1, 100), dr(1, 9), dr(1, 4), dr(1, 2)}
	at := []int{0, 50, far - 20}[l.number(3)]
	lo := max(0, p.Start-l.number(8))
	return waiting{
		l: loc(lo, min(far, lo+l.number(3)), at), d: drifts[l.number(len(drifts))], long: 1 + l.number(3), p: p,
		owner: p.Slots[l.number(len(p.Slots))].Owner, count: at + l.number(8) - 3, most: l.number(25),
	}
}

func TestWaitsAsTheDocumentSays(t *testing.T) {
	draw := &lottery{state: 15}
	told := map[bool]int{}
	for range 600 {
		w := draw.waiting(draw.smallPlan())
		want := wantGateWait(w)
		checkWait(t, w, want)
		told[want.ok]++
	}
	if told[true] < 100 || told[false] < 100 {
		t.Fatal("too few", told)
	}
}
