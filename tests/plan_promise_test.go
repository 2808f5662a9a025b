package tests

import (
	"math/big"
	"slices"
	"strconv"
	"testing"

	"loop.example/g00072/impl"
)

// Plans of all kinds: at their limits, small ones, and any.
func manyPlans(draw *lottery, n int) []impl.Plan {
	all := rightPlans()
	for range n {
		all = append(all, draw.smallPlan(), draw.anyPlan())
	}
	return all
}

// All occurrences that are told of the first rounds of a plan, of some between, and of the last ones.
func occurrencesOf(p impl.Plan) []occurrence {
	last := (far - p.Start) / wantRoundOf(p)
	rounds := []int{0, 1, 2, 3, last / 3, last/3 + 1, last - 2, last - 1, last, last + 1}
	slices.Sort(rounds)
	var all []occurrence
	for _, k := range slices.Compact(rounds) {
		for i := range p.Slots {
			if a, ok := impl.Occurrence(p, i, k); ok {
				all = append(all, occurrence{i, k, a})
			}
		}
	}
	return all
}

// P13: any two occurrences of a plan are one, or have no time in common; and the one of the later round, or of the later slot of one round, comes later.
func TestNoTwoOccurrencesOverlap(t *testing.T) {
	pairs, touching := 0, 0
	for _, p := range manyPlans(&lottery{state: 13}, 150) {
		all := occurrencesOf(p)
		for n, x := range all {
			if x.a.Hi-x.a.Lo != p.Slots[x.slot].Long || x.a.Lo < p.Start || x.a.Hi > far {
				t.Fatalf("%v: %v is not as long as its slot, or not in time", p, x)
			}
			for _, y := range all[n+1:] {
				if y.slot == x.slot && y.round == x.round || x.round == y.round && x.slot > y.slot || x.round > y.round {
					t.Fatalf("%v: %v and %v are not in order", p, x, y)
				}
				// The times of an occurrence are those from its Lo up to below its Hi.
				if y.a.Lo < x.a.Hi+p.Gap {
					t.Fatalf("%v: %v and %v have a time in common, or one of a gap", p, x, y)
				}
				pairs++
				if y.a.Lo == x.a.Hi {
					touching++
				}
			}
		}
	}
	if pairs < 100000 || touching < 1000 {
		t.Fatal("too few", pairs, touching)
	}
}

// Its first and last ones, and some between; all of them, where it is short.
func timesIn(a impl.Ival) []int {
	all := []int{a.Lo, a.Hi - 1, wantMiddle(a).n, a.Lo + (a.Hi-a.Lo)/3}
	for at := a.Lo; at < a.Hi && at < a.Lo+10; at++ {
		all = append(all, at)
	}
	return all
}

// P13: each time of an occurrence is found in it; the times beside it are not.
func TestEachTimeOfAnOccurrenceIsFoundInIt(t *testing.T) {
	found, gaps := 0, 0
	for _, p := range manyPlans(&lottery{state: 31}, 150) {
		for _, x := range occurrencesOf(p) {
			owner, this := p.Slots[x.slot].Owner, turn(x.slot, x.round)
			for _, at := range timesIn(x.a) {
				checkSlotAt(t, p, at, this)
				checkInSlot(t, p, owner, at, at, this)
				checkInSlot(t, p, owner, at, x.a.Hi, this)
				checkInSlot(t, p, owner, at, x.a.Hi+1, none())
				checkInSlot(t, p, owner, at, at-1, none())
				checkInSlot(t, p, (owner+1)%impl.MaxNodes, at, at, none())
				found++
			}
			checkInSlot(t, p, owner, x.a.Lo-1, x.a.Hi, none())
			for _, at := range []int{x.a.Lo - 1, x.a.Hi} {
				i, k, ok := impl.SlotAt(p, at)
				if ok && i == x.slot && k == x.round {
					t.Fatalf("%v: %d is found in %v", p, at, x)
				}
				if p.Gap > 0 && ok {
					t.Fatalf("%v: %d lies in the gap beside %v, and is found in %d of %d", p, at, x, i, k)
				}
				if !ok {
					gaps++
				}
			}
		}
	}
	if found < 30000 || gaps < 5000 {
		t.Fatal("too few", found, gaps)
	}
}

// A walk through a plan from a round on, slot by slot and time by time: whose turn it is at each of its times.
// What would not have ended by MaxTime is nobody's.
type stroll struct {
	from  int
	turns []slotAnswer
}

func strollThrough(p impl.Plan, round, rounds int) stroll {
	w := stroll{from: p.Start}
	// How far away the first one begins is the only thing that is not gone through one by one.
	w.from += int(times(bigOf(round), bigRound(p)).Int64())
	for k := round; k < round+rounds; k++ {
		for i, s := range p.Slots {
			end := w.from + len(w.turns) + s.Long
			w.turns = append(w.turns, slices.Repeat([]slotAnswer{{i, k, end <= far}}, s.Long)...)
			w.turns = append(w.turns, make([]slotAnswer, p.Gap)...)
		}
	}
	for i, at := range w.turns {
		if !at.ok {
			w.turns[i] = slotAnswer{}
		}
	}
	if w.from+len(w.turns) > far+1 {
		w.turns = w.turns[:far+1-w.from]
	}
	return w
}

// Whether the turn at the place i has begun just there.
func (w stroll) begins(i int) bool {
	return w.turns[i].ok && (i == 0 || w.turns[i-1] != w.turns[i])
}

// P13, of each time one by one: who has it, up to when, and when each owner's next slot begins.
func (w stroll) check(t *testing.T, p impl.Plan) {
	t.Helper()
	ends := w.from+len(w.turns) == far+1
	var next [impl.MaxNodes]slotAnswer
	var behind int
	for i := len(w.turns) - 1; i >= 0; i-- {
		at, turn := w.from+i, w.turns[i]
		checkSlotAt(t, p, at, turn)
		if i+1 == len(w.turns) || w.turns[i+1] != turn {
			behind = at + 1
		}
		if w.begins(i) {
			next[p.Slots[turn.slot].Owner] = slotAnswer{turn.slot, at, true}
		}
		for owner := range impl.MaxNodes {
			// Where the walk ends ahead of MaxTime the next one may lie behind it.
			if ends || next[owner].ok || !slices.Contains(wantOwnersOf(p), owner) {
				checkNextOwn(t, p, owner, at, next[owner])
			}
			for _, to := range []int{at - 1, at, behind - 1, behind, behind + 1} {
				want := none()
				if turn.ok && p.Slots[turn.slot].Owner == owner && at <= to && to <= behind {
					want = turn
				}
				checkInSlot(t, p, owner, at, to, want)
			}
		}
	}
}

// P13: NextOwn, SlotAt and InSlot against going through slots and rounds one by one, from Start on, far away, and at the end of time.
func TestGoingThroughSlotsOneByOne(t *testing.T) {
	draw := &lottery{state: 77}
	for range 60 {
		p := draw.smallPlan()
		last := (far - p.Start) / wantRoundOf(p)
		for _, k := range []int{0, 1, 1 + draw.number(1000000), last / 2, last - 3} {
			strollThrough(p, k, 4).check(t, p)
		}
		// So late that the first rounds are the last ones, and that the first one is not done.
		for _, rounds := range []int{0, 1, 2} {
			p.Start = far - rounds*wantRoundOf(p) - draw.number(wantRoundOf(p))
			strollThrough(p, 0, 4).check(t, p)
		}
	}
}

// Ahead of Start there is no slot, and the next one of each owner is its first.
func TestAheadOfStart(t *testing.T) {
	draw := &lottery{state: 78}
	for range 200 {
		p := draw.smallPlan()
		p.Start += 1 + []int{0, 0, 1000, far / 2}[draw.number(4)]
		for _, at := range []int{0, 1, p.Start / 2, p.Start - wantRoundOf(p), p.Start - 2, p.Start - 1} {
			if at < 0 || at >= p.Start {
				continue
			}
			checkSlotAt(t, p, at, none())
			for owner := range impl.MaxNodes {
				checkInSlot(t, p, owner, at, p.Start+1, none())
				first := slices.IndexFunc(p.Slots, func(s impl.Slot) bool { return s.Owner == owner })
				want := none()
				if first >= 0 {
					want = turn(first, p.Start+wantSlotFrom(p, first).n)
				}
				checkNextOwn(t, p, owner, at, want)
			}
		}
	}
}

// What NextOwn tells is the beginning of an occurrence of that owner; the one behind it comes later; and none of its owner begins between.
func TestNextOwnBeginsAnOwnOccurrence(t *testing.T) {
	draw := &lottery{state: 79}
	told := 0
	for _, p := range manyPlans(draw, 150) {
		for _, owner := range impl.OwnersOf(p) {
			at := p.Start * draw.number(2)
			for range 30 {
				i, from, ok := impl.NextOwn(p, owner, at)
				if !ok {
					break
				}
				slot, k, ok := impl.SlotAt(p, from)
				a, _ := impl.Occurrence(p, slot, k)
				if !ok || slot != i || a.Lo != from || from < at || p.Slots[i].Owner != owner {
					t.Fatalf("%v: the next one of %d from %d on is %d at %d; there is %d of %d, %v", p, owner, at, i, from, slot, k, a)
				}
				for _, x := range occurrencesOf(p) {
					if p.Slots[x.slot].Owner == owner && x.a.Lo >= at && x.a.Lo < from {
						t.Fatalf("%v: %v is ahead of the next one of %d from %d on, at %d", p, x, owner, at, from)
					}
				}
				at = from + 1
				told++
			}
		}
	}
	if told < 10000 {
		t.Fatal("too few", told)
	}
}

// P13: the shares of all owners and the gaps come to the whole round; none has a share but the owners.
func TestSharesAndGapsAreTheWhole(t *testing.T) {
	for _, p := range manyPlans(&lottery{state: 80}, 1000) {
		round := bigOf(impl.RoundOf(p))
		whole := ratOf(times(bigOf(len(p.Slots)), bigOf(p.Gap)), round)
		owners := impl.OwnersOf(p)
		for node := -1; node <= impl.MaxNodes; node++ {
			a, ok := impl.ShareOf(p, node)
			if !ok || !impl.FracOk(a) || (a.Num > 0) != slices.Contains(owners, node) {
				t.Fatalf("%v: the share of %d is %v, %v, and the owners are %v", p, node, a, ok, owners)
			}
			whole.Add(whole, valueOf(a))
		}
		if whole.Cmp(big.NewRat(1, 1)) != 0 {
			t.Fatalf("%v: shares and gaps come to %v", p, whole)
		}
	}
}

// P13: a share is how many times of a round are found in slots of that owner, and no time is left but those of the gaps.
func TestSharesTimeByTime(t *testing.T) {
	draw := &lottery{state: 81}
	for range 200 {
		p := draw.smallPlan()
		round := impl.RoundOf(p)
		// From any time on, not only from where a round begins.
		from := p.Start + draw.number(5*round)
		var count [impl.MaxNodes]int
		gaps := 0
		for at := from; at < from+round; at++ {
			if i, _, ok := impl.SlotAt(p, at); ok {
				count[p.Slots[i].Owner]++
			} else {
				gaps++
			}
		}
		if gaps != len(p.Slots)*p.Gap {
			t.Fatalf("%v: %d times of gaps", p, gaps)
		}
		for node, n := range count {
			checkShareOf(t, p, node, wantFracOf(n, round))
		}
	}
}

// A plan that is moved has all its occurrences moved; and moved back it is as it was.
func TestMovedPlans(t *testing.T) {
	draw := &lottery{state: 82}
	moves := 0
	for _, p := range manyPlans(draw, 200) {
		for _, by := range []int{0, 1, -1, draw.number(1000), -draw.number(1000), -p.Start, far - p.Start, draw.number(1000000) * 1000000} {
			q, ok := impl.PlanMoved(p, by)
			checkPlanMoved(t, p, by, wantPlanMoved(p, by))
			if !ok {
				continue
			}
			checkPlanMoved(t, q, -by, planAnswer{p, true})
			checkRoundOf(t, q, impl.RoundOf(p))
			checkOwnersOf(t, q, impl.OwnersOf(p)...)
			for _, x := range occurrencesOf(p) {
				want := wantShift(x.a, by)
				checkOccurrence(t, q, x.slot, x.round, want)
				if want.ok {
					checkSlotAt(t, q, want.a.Lo, turn(x.slot, x.round))
					checkSlotAt(t, q, want.a.Hi-1, turn(x.slot, x.round))
				}
			}
			moves++
		}
	}
	if moves < 2000 {
		t.Fatal("too few", moves)
	}
}

// Every function of the chapter, done and refused.
func planCalls(p impl.Plan) {
	for _, n := range []int{-1, 0, 1, 5, 40, 44, 60, far, far + 1} {
		impl.PlanOk(p)
		impl.RoundOf(p)
		impl.SlotFrom(p, n)
		impl.Occurrence(p, 0, n)
		impl.Occurrence(p, n, 1)
		impl.SlotAt(p, n)
		impl.InSlot(p, 0, n, n+1)
		impl.NextOwn(p, 5, n)
		impl.OwnersOf(p)
		impl.ShareOf(p, n)
		impl.PlanMoved(p, n)
		impl.PlanMoved(p, -n)
	}
}

// The slots of a plan with spare room behind them.
func roomyPlans() map[string]impl.Plan {
	all := wrongPlans()
	for n := 1; n <= impl.MaxSlots; n++ {
		all[strconv.Itoa(n)+" slots"] = planWith(n)
	}
	for name, p := range all {
		room := slices.Concat(p.Slots, []impl.Slot{sl(-7, -7), sl(-8, -8), sl(3, 5)})
		p.Slots = room[:len(p.Slots)]
		all[name] = p
	}
	return all
}

func roomOf(p impl.Plan) []impl.Slot { return p.Slots[:len(p.Slots)+3] }

// P23: no plan is written into, nor the spare room behind its slots.
func TestPlansAreNotChanged(t *testing.T) {
	for name, p := range roomyPlans() {
		was, kept := p, slices.Clone(roomOf(p))
		planCalls(p)
		if !samePlan(p, was) || !slices.Equal(roomOf(p), kept) {
			t.Fatalf("%s: %v came to %v", name, kept, roomOf(p))
		}
	}
}

// P23: a plan or a list of owners that is answered shares no memory with the plan, nor with another answer.
func TestPlanAnswersShareNothing(t *testing.T) {
	told := 0
	for name, p := range roomyPlans() {
		room := roomOf(p)
		kept := slices.Clone(room)
		asItWas := planOf(p.Start, p.Gap, kept[:len(p.Slots)]...)
		for _, by := range []int{0, 7, -40, far + 1} {
			want := wantPlanMoved(asItWas, by)
			one, _ := impl.PlanMoved(p, by)
			other, _ := impl.PlanMoved(p, by)
			owners, same := impl.OwnersOf(p), impl.OwnersOf(p)
			told += len(one.Slots) + len(owners)
			overwrite(one.Slots, sl(-5, -5))
			overwrite(owners, -5)
			if !slices.Equal(room, kept) || !samePlan(other, want.p) || !slices.Equal(same, wantOwnersOf(asItWas)) {
				t.Fatalf("%s: an answer was written into: %v, %v, %v", name, room, other, same)
			}
			overwrite(room, sl(-6, -6))
			if !samePlan(other, want.p) || !slices.Equal(same, wantOwnersOf(asItWas)) {
				t.Fatalf("%s: the plan was written into: %v, %v", name, other, same)
			}
			copy(room, kept)
		}
	}
	if told < 300 {
		t.Fatal("what was written over", told)
	}
}

// P23: a call that is made again answers the same, whatever was asked between.
func TestPlanAnswersAreTheSameEachTime(t *testing.T) {
	p := planOf(10, 2, sl(5, 5), sl(1, 3))
	for range 50 {
		checkPlanOk(t, p, true)
		checkRoundOf(t, p, 12)
		checkSlotFrom(t, p, 1, numAnswer{7, true})
		checkOccurrence(t, p, 1, 2, occurs(41, 44))
		checkSlotAt(t, p, 41, turn(1, 2))
		checkInSlot(t, p, 1, 41, 44, turn(1, 2))
		checkNextOwn(t, p, 1, 18, turn(1, 29))
		checkOwnersOf(t, p, 1, 5)
		checkShareOf(t, p, 5, share(5, 12))
		checkPlanMoved(t, p, -10, planAnswer{planOf(0, 2, sl(5, 5), sl(1, 3)), true})
		for _, wrong := range wrongPlans() {
			planCalls(wrong)
		}
	}
}
