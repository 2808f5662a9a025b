package tests

import (
	"math"
	"math/big"
	"slices"

	"loop.example/g00072/impl"
)

// What the document says of the plan of slots, written again over numbers without bound.

func sl(owner, long int) impl.Slot { return impl.Slot{Owner: owner, Long: long} }

func planOf(start, gap int, slots ...impl.Slot) impl.Plan {
	return impl.Plan{Start: start, Gap: gap, Slots: slots}
}

// A slot, and the round of it or the time at which it begins.
type slotAnswer struct {
	slot, n int
	ok      bool
}

type planAnswer struct {
	p  impl.Plan
	ok bool
}

func samePlan(a, b impl.Plan) bool {
	return a.Start == b.Start && a.Gap == b.Gap && slices.Equal(a.Slots, b.Slots)
}

func wantSlotOk(s impl.Slot) bool {
	return wantNode(s.Owner) && inRange(bigOf(s.Long), 1, impl.MaxLong)
}

func wantPlanOk(p impl.Plan) bool {
	return bigTime(bigOf(p.Start)) && inRange(bigOf(p.Gap), 0, impl.MaxGap) &&
		len(p.Slots) != 0 && len(p.Slots) <= impl.MaxSlots && !slices.ContainsFunc(p.Slots, func(s impl.Slot) bool { return !wantSlotOk(s) })
}

// How long the first n slots are with the gaps behind them.
func bigLong(p impl.Plan, n int) *big.Int {
	sum := times(bigOf(n), bigOf(p.Gap))
	for _, s := range p.Slots[:n] {
		sum = plus(sum, bigOf(s.Long))
	}
	return sum
}

func bigRound(p impl.Plan) *big.Int { return bigLong(p, len(p.Slots)) }

func wantRoundOf(p impl.Plan) int {
	if !wantPlanOk(p) {
		return 0
	}
	return int(bigRound(p).Int64())
}

func wantHasSlot(p impl.Plan, i int) bool { return wantPlanOk(p) && 0 <= i && i < len(p.Slots) }

func wantSlotFrom(p impl.Plan, i int) numAnswer {
	if !wantHasSlot(p, i) {
		return numAnswer{}
	}
	return numAnswer{int(bigLong(p, i).Int64()), true}
}

func wantOccurrence(p impl.Plan, i, k int) pairAnswer {
	if !wantHasSlot(p, i) || !bigTime(bigOf(k)) {
		return pairAnswer{}
	}
	lo := plus(plus(bigOf(p.Start), times(bigOf(k), bigRound(p))), bigLong(p, i))
	return answerOf(bigIval{lo, plus(lo, bigOf(p.Slots[i].Long))}, true)
}

type occurrence struct {
	slot, round int
	a           impl.Ival
}

// Those of the round that has the time t, of the rounds beside it, and of the first two; nothing of a plan or a time that is none. All that is asked of a time is told by these.
func occurrencesNear(p impl.Plan, t int) []occurrence {
	var near []occurrence
	if !wantPlanOk(p) || !bigTime(bigOf(t)) {
		return near
	}
	k := int(new(big.Int).Div(less(bigOf(t), bigOf(p.Start)), bigRound(p)).Int64())
	for _, round := range []int{k - 1, k, k + 1, 0, 1} {
		for i := range p.Slots {
			if at := wantOccurrence(p, i, round); at.ok {
				near = append(near, occurrence{i, round, at.a})
			}
		}
	}
	return near
}

func wantSlotAt(near []occurrence, t int) slotAnswer {
	for _, at := range near {
		if at.a.Lo <= t && t < at.a.Hi {
			return slotAnswer{at.slot, at.round, true}
		}
	}
	return slotAnswer{}
}

func wantInSlot(p impl.Plan, near []occurrence, owner, from, to int) slotAnswer {
	at := wantSlotAt(near, from)
	if !at.ok || p.Slots[at.slot].Owner != owner || from > to || to > wantOccurrence(p, at.slot, at.n).a.Hi {
		return slotAnswer{}
	}
	return at
}

// The least one of all beginnings.
func wantNextOwn(p impl.Plan, near []occurrence, owner, t int) slotAnswer {
	var next slotAnswer
	for _, at := range near {
		if p.Slots[at.slot].Owner == owner && at.a.Lo >= t && (!next.ok || at.a.Lo < next.n) {
			next = slotAnswer{at.slot, at.a.Lo, true}
		}
	}
	return next
}

func wantOwnersOf(p impl.Plan) []int {
	var nodes []int
	if !wantPlanOk(p) {
		return nodes
	}
	for _, s := range p.Slots {
		nodes = append(nodes, s.Owner)
	}
	slices.Sort(nodes)
	return slices.Compact(nodes)
}

func wantShareOf(p impl.Plan, owner int) fracAnswer {
	if !wantPlanOk(p) {
		return fracAnswer{}
	}
	sum := bigOf(0)
	for _, s := range p.Slots {
		if s.Owner == owner {
			sum = plus(sum, bigOf(s.Long))
		}
	}
	return fracAnswer{fracOfRat(ratOf(sum, bigRound(p))), true}
}

func wantPlanMoved(p impl.Plan, by int) planAnswer {
	start := plus(bigOf(p.Start), bigOf(by))
	if !wantPlanOk(p) || !inRange(bigOf(by), -impl.MaxTime, impl.MaxTime) || !bigTime(start) {
		return planAnswer{}
	}
	return planAnswer{planOf(int(start.Int64()), p.Gap, p.Slots...), true}
}

// So many slots, of all owners, none as long as the one ahead.
func planWith(n int) impl.Plan {
	p := planOf(40, 3)
	for i := range n {
		p.Slots = append(p.Slots, sl(5*i%impl.MaxNodes, 4+i%3))
	}
	return p
}

func slotsAlike(n int, s impl.Slot) []impl.Slot { return slices.Repeat([]impl.Slot{s}, n) }

// Plans at their limits, short and long, of one owner and of several; also such of which no occurrence ends by MaxTime, or just one does.
func rightPlans() []impl.Plan {
	all := []impl.Plan{
		planOf(0, 0, sl(0, 1)), planOf(0, 1, sl(7, 1)), planOf(1, 0, sl(3, 1), sl(3, 1)),
		planOf(10, 2, sl(0, 5), sl(1, 3)), planOf(10, 0, sl(0, 5), sl(1, 3), sl(0, 2)), planOf(0, 4, sl(2, 1), sl(2, 6), sl(5, 1), sl(2, 2)),
		planOf(0, impl.MaxGap, sl(0, impl.MaxLong)), planOf(5, impl.MaxGap, sl(0, 1), sl(1, impl.MaxLong)), planOf(5, impl.MaxGap-1, sl(1, impl.MaxLong-1)),
		planOf(0, impl.MaxGap, slotsAlike(impl.MaxSlots, sl(7, impl.MaxLong))...), planOf(0, 0, slotsAlike(impl.MaxSlots, sl(0, 1))...),
		planOf(far, 0, sl(0, 1)), planOf(far-1, 0, sl(0, 1)), planOf(far-1, 0, sl(0, 2)), planOf(far-2, 0, sl(0, 1), sl(1, 1), sl(0, 1)),
		planOf(far, impl.MaxGap, slotsAlike(impl.MaxSlots, sl(7, impl.MaxLong))...), planOf(far-impl.MaxLong, impl.MaxGap, sl(4, impl.MaxLong)), planOf(far-impl.MaxLong+1, 0, sl(4, impl.MaxLong)),
		planOf(far-30, 3, sl(6, 4), sl(1, 9), sl(6, 1)), planOf(far/2, 7, sl(1, 1000), sl(2, 10), sl(1, 1)),
	}
	for _, n := range []int{1, 2, 5, impl.MaxSlots - 1, impl.MaxSlots} {
		all = append(all, planWith(n))
	}
	return all
}

// A plan that is none, in each of its ways.
func wrongPlans() map[string]impl.Plan {
	slots := planWith(impl.MaxSlots).Slots
	all := map[string]impl.Plan{
		"the zero value": {}, "no slot": planOf(40, 3), "an empty list": planOf(40, 3, []impl.Slot{}...), "one slot more": planOf(40, 3, append(slots, sl(0, 4))...),
		"many slots more": planOf(40, 3, slices.Concat(slots, slots, slots)...), "all of it": planOf(-1, -1, sl(-1, 0), sl(8, impl.MaxLong+1)),
		"Start one below": planOf(-1, 3, slots...), "Start one beyond": planOf(far+1, 3, slots...),
		"Start the least int": planOf(math.MinInt, 3, slots...), "Start the greatest int": planOf(math.MaxInt, 3, slots...),
		"Gap one below": planOf(40, -1, slots...), "Gap one beyond": planOf(40, impl.MaxGap+1, slots...),
		"Gap the least int": planOf(40, math.MinInt, slots...), "Gap the greatest int": planOf(40, math.MaxInt, slots...),
		// The gaps make up for what is wrong with the slot, so that the round has a length all the same.
		"a slot of 0 and a gap": planOf(0, 5, sl(1, 0)), "a slot below 0 and a gap": planOf(0, 5, sl(1, -3)), "a slot of 0 and no gap": planOf(0, 0, sl(1, 0)),
	}
	ways := map[string]impl.Slot{
		"Owner one below": sl(-1, 4), "Owner one beyond": sl(impl.MaxNodes, 4), "Owner the least int": sl(math.MinInt, 4), "Owner the greatest int": sl(math.MaxInt, 4),
		"Long one below": sl(2, 0), "Long one beyond": sl(2, impl.MaxLong+1), "Long the least int": sl(2, math.MinInt), "Long the greatest int": sl(2, math.MaxInt), "a Long below 0": sl(2, -4),
	}
	for name, s := range ways {
		for place, where := range map[int]string{0: " in front", 5: " between", impl.MaxSlots - 1: " at the end"} {
			wrong := slices.Clone(slots)
			wrong[place] = s
			all[name+where] = planOf(40, 3, wrong...)
		}
		all[name+", alone"] = planOf(40, 3, s)
	}
	return all
}

// So many slots of so many owners, each below long, with a gap and a Start below the others.
func (l *lottery) plan(slots, owners, long, gap, start int) impl.Plan {
	p := planOf(l.number(start), l.number(gap))
	for range slots {
		p.Slots = append(p.Slots, sl(l.number(owners), 1+l.number(long)))
	}
	return p
}

// Any small plan, often without gaps, sometimes with owners that have no slot.
func (l *lottery) smallPlan() impl.Plan {
	return l.plan(1+l.number(impl.MaxSlots), 1+l.number(impl.MaxNodes), 1+l.number(9), 1+l.number(4), 1+l.number(40))
}

// Any plan within all limits: long slots, long gaps, any Start.
func (l *lottery) anyPlan() impl.Plan {
	p := l.plan(1+l.number(impl.MaxSlots), impl.MaxNodes, impl.MaxLong, impl.MaxGap+1, 1+l.number(1000000))
	switch l.number(4) {
	case 0:
		p.Start *= l.number(1000000)
	case 1:
		p.Start = far - p.Start*10
	}
	return p
}
