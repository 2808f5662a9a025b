package tests

import (
	"math"
	"slices"
	"testing"

	"loop.example/g00072/impl"
)

// Each time that a frame of so many counts may take, tried one by one.
func takesOf(d impl.Drift, long int) []int {
	var takes []int
	for time := range 2*long + 3 {
		if impl.MayCount(d, time, long) {
			takes = append(takes, time)
		}
	}
	return takes
}

// All times of an interval that is not wide; of a wide one its ends, and some between.
func trueTimes(a impl.Ival) []int {
	times := []int{a.Lo, a.Hi, a.Lo + (a.Hi-a.Lo)/3, wantMiddle(a).n, max(a.Lo, a.Hi-1), min(a.Hi, a.Lo+1)}
	for at := a.Lo; at <= a.Hi && at < a.Lo+12; at++ {
		times = append(times, at)
	}
	slices.Sort(times)
	return slices.Compact(times)
}

// P14: a frame that begins at each true time, and takes each time that it may, lies in the occurrence that the gate told, and that is its owner's.
func checkGone(t *testing.T, q question, got gateAnswer, takes []int) {
	t.Helper()
	in, ok := impl.Occurrence(q.p, got.slot, got.round)
	if !ok || q.p.Slots[got.slot].Owner != q.owner {
		t.Fatalf("%v goes in %v, which is %v, %v", q, got, in, ok)
	}
	for _, from := range trueTimes(q.now) {
		for _, took := range takes {
			if from < in.Lo || from+took > in.Hi {
				t.Fatalf("%v goes in %v; from %d on, for %d, it is not in %v", q, got, from, took, in)
			}
		}
	}
}

// P14, of small plans: each interval from any time of some rounds on, by each drift, of each length that may fit.
func TestWhatGoesLiesInItsSlot(t *testing.T) {
	draw := &lottery{state: 14}
	gone := 0
	for range 25 {
		p := draw.smallPlan()
		for _, d := range []impl.Drift{dr(0, 1), dr(1, 2), dr(1, 3), dr(1, 4), dr(2, 7), dr(1, impl.MaxDen)} {
			for long := 1; long <= 9; long++ {
				takes := takesOf(d, long)
				for lo := p.Start - 2; lo < p.Start+3*wantRoundOf(p); lo += 1 + draw.number(3) {
					for wide := range 8 {
						owner := p.Slots[draw.number(len(p.Slots))].Owner
						q := asked(lo, lo+wide, d, long, p, owner)
						if got := q.ask(); got.code == impl.GateGo {
							checkGone(t, q, got, takes)
							gone++
						}
					}
				}
			}
		}
	}
	if gone < 5000 {
		t.Fatal("too few", gone)
	}
}

// P14, of plans at their limits and any others, in their first rounds, far away, and where time ends: intervals that fit just, with room, and not.
func TestWhatGoesFarAwayLiesInItsSlot(t *testing.T) {
	draw := &lottery{state: 41}
	drifts := rightDrifts()
	gone, just := 0, 0
	for _, p := range manyPlans(draw, 60) {
		for _, x := range occurrencesOf(p) {
			d, owner := drifts[draw.number(len(drifts))], p.Slots[x.slot].Owner
			long := 1 + draw.number(x.a.Hi-x.a.Lo)
			took, ok := impl.Between(d, long)
			if !ok {
				t.Fatal("between", d, long)
			}
			takes := []int{took.Lo, took.Hi, wantMiddle(took).n, min(took.Hi, took.Lo+1), max(took.Lo, took.Hi-1)}
			room := max(0, x.a.Hi-took.Hi-x.a.Lo)
			for _, lo := range []int{x.a.Lo - 1, x.a.Lo, x.a.Lo + 1, x.a.Lo + room/2, x.a.Lo + room, x.a.Lo + room + 1} {
				for _, hi := range []int{lo, lo + 1, x.a.Lo + room - 1, x.a.Lo + room, x.a.Lo + room + 1, lo + draw.number(room+1)} {
					q := asked(lo, hi, d, long, p, owner)
					got := q.ask()
					if got.code == impl.GateGo {
						checkGone(t, q, got, takes)
						gone++
					}
					fits := x.a.Lo <= lo && lo <= hi && hi+took.Hi <= x.a.Hi
					if fits && got != goes(x.slot, x.round) {
						t.Fatalf("%v lies in %v, and the gate tells %v", q, x, got)
					}
					if fits && hi+took.Hi == x.a.Hi {
						just++
					}
				}
			}
		}
	}
	if gone < 10000 || just < 1000 {
		t.Fatal("too few", gone, just)
	}
}

// From a true time on an oscillator goes by strides; for as long as it has not counted more than the frame is long, true time must lie in the slot.
func checkUnderWay(t *testing.T, name string, o impl.Osc, tick func(step, by int) int, long int, in impl.Ival) {
	t.Helper()
	strides := []int{1, 2, 1, 3, 5, 1}
	start := o.Count
	for step := 0; o.Count-start <= long; step++ {
		if o.Time < in.Lo || o.Time > in.Hi {
			t.Fatalf("%s: behind %d of %d counts true time is %d, and the slot %v", name, o.Count-start, long, o.Time, in)
		}
		by := strides[(step+o.Time)%len(strides)]
		next, ok := impl.OscStep(o, impl.Stride{By: by, Want: tick(step, by)})
		if !ok {
			t.Fatalf("%s: %v can't go on by %d", name, o, by)
		}
		o = next
	}
}

// P14: whatever the oscillator does, at the ends of its drift, between them, and now one, now the other, from each true time on.
func TestWhateverTheOscillatorDoes(t *testing.T) {
	draw := &lottery{state: 42}
	gone := 0
	for range 40 {
		p := draw.plan(1+draw.number(5), 3, 40, 4, 90)
		for _, d := range []impl.Drift{dr(0, 1), dr(1, 2), dr(1, 3), dr(1, 4), dr(2, 7), dr(1, 9), dr(1, impl.MaxDen)} {
			for range 25 {
				lo := p.Start + draw.number(3*wantRoundOf(p))
				q := asked(lo, lo+draw.number(9), d, 1+draw.number(12), p, draw.number(3))
				got := q.ask()
				if got.code != impl.GateGo {
					continue
				}
				in, _ := impl.Occurrence(p, got.slot, got.round)
				for name, tick := range ticks() {
					for from := q.now.Lo; from <= q.now.Hi; from++ {
						checkUnderWay(t, name, osc(d, from, 100), tick, q.long, in)
					}
				}
				gone++
			}
		}
	}
	if gone < 300 {
		t.Fatal("too few", gone)
	}
}

// The oscillator when it stands at that count; a stride of 1 is always counted as 1, so that no count is passed.
func countedTo(o impl.Osc, count int, tick func(step, by int) int) impl.Osc {
	for step := 0; o.Count < count; step++ {
		by := []int{9, 2, 4, 1, 7}[step%5]
		if most, _ := impl.MostCount(o.Drift, by); o.Count+most > count {
			by = 1
		}
		o, _ = impl.OscStep(o, impl.Stride{By: by, Want: tick(step, by)})
	}
	return o
}

// P14: a node that waits as GateWait tells sends in its slot, wherever in its interval true time was, and however its oscillator went meanwhile.
func TestWhoWaitsSendsInItsSlot(t *testing.T) {
	draw := &lottery{state: 43}
	sent := 0
	for range 300 {
		p := draw.plan(1+draw.number(4), 3, 60, 5, 60)
		d := []impl.Drift{dr(0, 1), dr(1, 4), dr(1, 9), dr(1, 100), dr(1, impl.MaxDen)}[draw.number(5)]
		l, long, owner := loc(draw.number(40), 40+draw.number(4), 7), 1+draw.number(8), draw.number(3)
		n, ok := impl.GateWait(l, d, long, p, owner, 7, impl.MaxWait)
		if !ok {
			continue
		}
		now, _ := impl.CarryOn(l, d, 7+n)
		got := asked(now.Lo, now.Hi, d, long, p, owner).ask()
		in, _ := impl.Occurrence(p, got.slot, got.round)
		for name, tick := range ticks() {
			for from := l.Bound.Lo; from <= l.Bound.Hi; from++ {
				checkUnderWay(t, name, countedTo(osc(d, from, 7), 7+n, tick), tick, long, in)
			}
		}
		sent++
	}
	if sent < 50 {
		t.Fatal("too few", sent)
	}
}

// In whose turn, of which slot and round, each time from lo up to below hi is; none, where they are several or another's.
func (w stroll) whole(p impl.Plan, owner, lo, hi int) slotAnswer {
	if lo < w.from || hi > w.from+len(w.turns) {
		return slotAnswer{}
	}
	first := w.turns[lo-w.from]
	if !first.ok || p.Slots[first.slot].Owner != owner {
		return slotAnswer{}
	}
	for _, turn := range w.turns[lo-w.from : hi-w.from] {
		if turn != first {
			return slotAnswer{}
		}
	}
	return first
}

// P14: from that time on the gate goes just where some occurrence of its owner has the whole of what the frame may reach over, and is unsure elsewhere and where nothing is known.
func (w stroll) checkGate(t *testing.T, from int, p impl.Plan, d impl.Drift, long int, seen map[int]int) {
	t.Helper()
	takes := takesOf(d, long)
	most := takes[len(takes)-1]
	last := w.from + len(w.turns) - 1
	// Where the walk ends ahead of MaxTime, what is asked about must end ahead of it.
	if last < far {
		last -= 5 + most
	}
	for lo := from; lo <= last; lo++ {
		for _, wide := range []int{0, 1, 2, 5} {
			for owner := range impl.MaxNodes {
				want := notSure()
				if in := w.whole(p, owner, lo, lo+wide+most); in.ok {
					want = goes(in.slot, in.n)
				}
				q := asked(lo, lo+wide, d, long, p, owner)
				if q.now.Hi > far {
					want = notAsked()
				}
				checkGate(t, q, want)
				seen[want.code]++
				q.known = false
				checkGate(t, q, notSure())
			}
		}
	}
}

// P14, against going through slots and rounds one by one, from ahead of Start on, far away, and at the end of time.
func TestUnsureOnlyWhereNoSlotHasTheWhole(t *testing.T) {
	draw := &lottery{state: 44}
	seen := map[int]int{}
	drifts := []impl.Drift{dr(0, 1), dr(1, 2), dr(1, 3), dr(1, 4), dr(2, 7)}
	for range 60 {
		p := draw.plan(1+draw.number(5), 1+draw.number(4), 1+draw.number(9), 1+draw.number(3), 1+draw.number(40))
		rounds := 2 + 30/wantRoundOf(p)
		last := (far - p.Start) / wantRoundOf(p)
		late := p
		late.Start = far - draw.number(2*wantRoundOf(p)+1)
		for _, long := range []int{1, 1 + draw.number(6)} {
			d := drifts[draw.number(len(drifts))]
			strollThrough(p, 0, rounds).checkGate(t, p.Start-3, p, d, long, seen)
			for _, k := range []int{1 + draw.number(1000000), last - rounds + 1} {
				walk := strollThrough(p, k, rounds)
				walk.checkGate(t, walk.from, p, d, long, seen)
			}
			strollThrough(late, 0, 3).checkGate(t, late.Start-3, late, d, long, seen)
		}
	}
	if seen[impl.GateGo] < 1000 || seen[impl.GateUnsure] < 10000 || seen[impl.GateBad] < 100 {
		t.Fatal("too few", seen)
	}
}

// What goes does so too where more is known, for a shorter frame, and by a better oscillator, in the same slot.
func TestWhatIsSurerGoesToo(t *testing.T) {
	draw := &lottery{state: 45}
	gone := 0
	for range 20000 {
		p := draw.smallPlan()
		lo := p.Start + draw.number(2*wantRoundOf(p))
		q := asked(lo, lo+draw.number(5), dr(1, 1+draw.number(5)+1), 1+draw.number(5), p, p.Slots[draw.number(len(p.Slots))].Owner)
		got := q.ask()
		if got.code != impl.GateGo {
			continue
		}
		for lo := q.now.Lo; lo <= q.now.Hi; lo++ {
			for hi := lo; hi <= q.now.Hi; hi++ {
				for long := 1; long <= q.long; long++ {
					for _, d := range []impl.Drift{q.d, dr(1, 2*q.d.Den), dr(0, 1)} {
						checkGate(t, asked(lo, hi, d, long, p, q.owner), got)
					}
				}
			}
		}
		gone++
	}
	if gone < 500 {
		t.Fatal("too few", gone)
	}
}

// The place of its longest slot, of several the first.
func longestOf(p impl.Plan, owner int) int {
	longest := -1
	for i, s := range p.Slots {
		if s.Owner == owner && (longest < 0 || s.Long > p.Slots[longest].Long) {
			longest = i
		}
	}
	return longest
}

// P14: what is wider than the budget never goes, wherever it lies; where there is none, nothing does; and what is just as wide goes in the longest slot.
func TestWiderThanTheBudgetNeverGoes(t *testing.T) {
	draw := &lottery{state: 46}
	drifts := rightDrifts()
	just, none := 0, 0
	for _, p := range manyPlans(draw, 150) {
		d := drifts[draw.number(len(drifts))]
		for _, long := range longsFor(p, draw) {
			for _, owner := range []int{p.Slots[draw.number(len(p.Slots))].Owner, draw.number(impl.MaxNodes)} {
				budget, ok := impl.GateBudget(p, owner, d, long)
				from := -1
				if ok {
					from = budget
				} else {
					none++
				}
				for _, x := range occurrencesOf(p) {
					for _, lo := range []int{x.a.Lo - 1, x.a.Lo, x.a.Lo + 1, wantMiddle(x.a).n, x.a.Hi - 1} {
						for _, wide := range []int{from + 1, from + 2, from + 1 + draw.number(1000)} {
							q := asked(lo, lo+wide, d, long, p, owner)
							if got := q.ask(); got.code == impl.GateGo {
								t.Fatalf("%v goes in %v, and the budget is %d, %v", q, got, budget, ok)
							}
						}
					}
				}
				if !ok {
					continue
				}
				longest := longestOf(p, owner)
				for _, k := range []int{0, 1, draw.number(1000)} {
					if a, told := impl.Occurrence(p, longest, k); told {
						checkGate(t, asked(a.Lo, a.Lo+budget, d, long, p, owner), goes(longest, k))
						just++
					}
				}
			}
		}
	}
	if just < 1000 || none < 500 {
		t.Fatal("too few", just, none)
	}
}

// Whether the gate goes at that count, by what is carried on to it.
func (w waiting) goesAt(count int) bool {
	now, code := impl.CarryOn(w.l, w.d, count)
	return code == impl.LocWell && question{now, true, w.d, w.long, w.p, w.owner}.ask().code == impl.GateGo
}

// P14: where GateWait tells n the gate goes at n and at none below it; where it tells none it goes at none.
func TestTheGateGoesAtTheWaitAndNotBelow(t *testing.T) {
	draw := &lottery{state: 47}
	waited := map[bool]int{}
	long := 0
	for i := range 4000 {
		w := draw.waiting(draw.smallPlan())
		if i%4 == 0 {
			w.p = draw.plan(1+draw.number(4), 3, 90, 200, 90)
			w.owner, w.most = w.p.Slots[0].Owner, impl.MaxWait-draw.number(2)*draw.number(impl.MaxWait)
			w.d = []impl.Drift{dr(0, 1), dr(1, impl.MaxDen), dr(1, 1000), dr(1, 30)}[draw.number(4)]
		}
		n, ok := impl.GateWait(w.l, w.d, w.long, w.p, w.owner, w.count, w.most)
		if n < 0 || n > w.most || !ok && n != 0 {
			t.Fatalf("GateWait(%v): %d, %v", w, n, ok)
		}
		right := w.count >= 0 && w.count <= far
		for m := 0; m <= w.most && right; m++ {
			if goes := w.goesAt(w.count + m); goes && (!ok || m < n) || !goes && ok && m == n {
				t.Fatalf("GateWait(%v): %d, %v, and that it goes at %d is %v", w, n, ok, m, goes)
			}
		}
		waited[ok]++
		if n > 50 {
			long++
		}
	}
	if waited[true] < 500 || waited[false] < 500 || long < 50 {
		t.Fatal("too few", waited, long)
	}
}

// A frame may still be under way just if some time that it may take is longer than some time that the counts behind its beginning may have taken.
func TestBusyJustWhereAFrameMayBeUnderWay(t *testing.T) {
	for _, d := range smallDrifts(7) {
		if !impl.DriftOk(d) {
			continue
		}
		for long := 1; long <= 10; long++ {
			for gone := range 35 {
				may := false
				for _, took := range takesOf(d, long) {
					for _, behind := range takesOf(d, gone) {
						may = may || behind < took
					}
				}
				for _, sent := range []int{0, 7, far - gone} {
					checkBusy(t, d, sent, long, sent+gone, may)
				}
			}
		}
	}
}

// Once a frame is over it stays so, and a longer one is over no sooner.
func TestBusyEnds(t *testing.T) {
	for _, d := range rightDrifts() {
		over := 0
		for long := 1; long <= 30; long++ {
			first := -1
			for gone := range 150 {
				busy := impl.BusyStill(d, 5, long, 5+gone)
				if busy && first >= 0 {
					t.Fatalf("by %v a frame of %d is over at %d, and not at %d", d, long, first, gone)
				}
				if !busy && first < 0 {
					first = gone
				}
			}
			if first < long || first < over {
				t.Fatalf("by %v a frame of %d is over at %d, and one less at %d", d, long, first, over)
			}
			over = first
		}
	}
}

// Every function of the chapter, done and refused.
func gateCalls(p impl.Plan) {
	for _, n := range []int{math.MinInt, -1, 0, 1, 5, 40, 44, 60, far, far + 1, math.MaxInt} {
		impl.GateSpan(iv(40, 41), dr(1, 4), n)
		impl.BusyStill(dr(1, 4), 3, 2, n)
		for owner := -1; owner <= impl.MaxNodes; owner++ {
			impl.GateAsk(iv(n, n), true, dr(0, 1), 1, p, owner)
			impl.GateAsk(iv(40, 41), false, dr(0, 1), n, p, owner)
			impl.GateBudget(p, owner, dr(1, 4), n)
			impl.GateWait(loc(38, 39, 7), dr(0, 1), 2, p, owner, n, 60)
			impl.GateWait(loc(38, 39, 7), dr(0, 1), 2, p, owner, 7, n)
		}
	}
}

// P23: no plan is written into, nor the spare room behind its slots.
func TestGateChangesNoPlan(t *testing.T) {
	for name, p := range roomyPlans() {
		was, kept := p, slices.Clone(roomOf(p))
		gateCalls(p)
		if !samePlan(p, was) || !slices.Equal(roomOf(p), kept) {
			t.Fatalf("%s: %v came to %v", name, kept, roomOf(p))
		}
	}
}

// P23: the other arguments stay as they were, and a call that is made again answers the same, whatever was asked between.
func TestGateAnswersAreTheSameEachTime(t *testing.T) {
	p, d := planOf(10, 2, sl(0, 5), sl(1, 3)), dr(1, 4)
	now, l := iv(41, 41), loc(15, 15, 7)
	q := question{now, true, d, 2, p, 1}
	w := waiting{l, d, 1, p, 1, 7, 9}
	for range 30 {
		checkSpan(t, now, d, 3, occurs(41, 45))
		checkGate(t, q, goes(1, 2))
		checkGate(t, q, wantGateAsk(q))
		checkBusy(t, d, 0, 3, 3, true)
		checkBusy(t, d, 0, 3, 4, false)
		checkWait(t, w, waits(2))
		checkBudget(t, p, 0, d, 3, numAnswer{1, true})
		if now != iv(41, 41) || l != loc(15, 15, 7) || d != dr(1, 4) || w.l != l || q.now != now || !samePlan(p, planOf(10, 2, sl(0, 5), sl(1, 3))) {
			t.Fatal("an argument was changed", now, l, d, p)
		}
		for _, wrong := range wrongPlans() {
			impl.GateAsk(now, true, d, 2, wrong, 1)
			impl.GateBudget(wrong, 1, d, 2)
			impl.GateWait(l, d, 2, wrong, 1, 7, 9)
		}
	}
}
