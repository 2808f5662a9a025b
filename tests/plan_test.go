package tests

import (
	"math"
	"slices"
	"testing"

	"loop.example/g00072/impl"
)

func TestLimitsOfPlans(t *testing.T) {
	if limits := [3]int{impl.MaxSlots, impl.MaxLong, impl.MaxGap}; limits != [3]int{12, 1000000, 100000} {
		t.Error(limits)
	}
}

func checkPlanOk(t *testing.T, p impl.Plan, want bool) {
	t.Helper()
	if got := impl.PlanOk(p); got != want {
		t.Fatalf("PlanOk(%v) is %v", p, got)
	}
}

func checkRoundOf(t *testing.T, p impl.Plan, want int) {
	t.Helper()
	if got := impl.RoundOf(p); got != want {
		t.Fatalf("RoundOf(%v) is %d, want %d", p, got, want)
	}
}

func checkSlotFrom(t *testing.T, p impl.Plan, i int, want numAnswer) {
	t.Helper()
	n, ok := impl.SlotFrom(p, i)
	if got := (numAnswer{n, ok}); got != want {
		t.Fatalf("SlotFrom(%v, %d): got %v, want %v", p, i, got, want)
	}
}

func checkOccurrence(t *testing.T, p impl.Plan, i, k int, want pairAnswer) {
	t.Helper()
	a, ok := impl.Occurrence(p, i, k)
	if got := (pairAnswer{a, ok}); got != want {
		t.Fatalf("Occurrence(%v, %d, %d): got %v, want %v", p, i, k, got, want)
	}
}

func checkSlotAt(t *testing.T, p impl.Plan, at int, want slotAnswer) {
	t.Helper()
	i, k, ok := impl.SlotAt(p, at)
	if got := (slotAnswer{i, k, ok}); got != want {
		t.Fatalf("SlotAt(%v, %d): got %v, want %v", p, at, got, want)
	}
}

func checkInSlot(t *testing.T, p impl.Plan, owner, from, to int, want slotAnswer) {
	t.Helper()
	i, k, ok := impl.InSlot(p, owner, from, to)
	if got := (slotAnswer{i, k, ok}); got != want {
		t.Fatalf("InSlot(%v, %d, %d, %d): got %v, want %v", p, owner, from, to, got, want)
	}
}

func checkNextOwn(t *testing.T, p impl.Plan, owner, at int, want slotAnswer) {
	t.Helper()
	i, from, ok := impl.NextOwn(p, owner, at)
	if got := (slotAnswer{i, from, ok}); got != want {
		t.Fatalf("NextOwn(%v, %d, %d): got %v, want %v", p, owner, at, got, want)
	}
}

func checkOwnersOf(t *testing.T, p impl.Plan, want ...int) {
	t.Helper()
	if got := impl.OwnersOf(p); !slices.Equal(got, want) {
		t.Fatalf("OwnersOf(%v): got %v, want %v", p, got, want)
	}
}

func checkShareOf(t *testing.T, p impl.Plan, owner int, want fracAnswer) {
	t.Helper()
	a, ok := impl.ShareOf(p, owner)
	if got := (fracAnswer{a, ok}); got != want {
		t.Fatalf("ShareOf(%v, %d): got %v, want %v", p, owner, got, want)
	}
}

func checkPlanMoved(t *testing.T, p impl.Plan, by int, want planAnswer) {
	t.Helper()
	got, ok := impl.PlanMoved(p, by)
	if !samePlan(got, want.p) || ok != want.ok {
		t.Fatalf("PlanMoved(%v, %d): got %v, %v, want %v", p, by, got, ok, want)
	}
}

func occurs(lo, hi int) pairAnswer { return pairAnswer{iv(lo, hi), true} }

func turn(slot, n int) slotAnswer { return slotAnswer{slot, n, true} }

func none() slotAnswer { return slotAnswer{} }

func share(num, den int) fracAnswer { return fracAnswer{fr(num, den), true} }

func TestPlanOkAtItsLimits(t *testing.T) {
	for _, p := range rightPlans() {
		checkPlanOk(t, p, true)
	}
	for name, p := range wrongPlans() {
		if impl.PlanOk(p) || wantPlanOk(p) {
			t.Errorf("%s: it is PlanOk", name)
		}
	}
	for start, want := range map[int]bool{-1: false, 0: true, 1: true, far - 1: true, far: true, far + 1: false} {
		checkPlanOk(t, planOf(start, 3, sl(1, 4)), want)
	}
	for gap, want := range map[int]bool{-1: false, 0: true, 1: true, impl.MaxGap - 1: true, impl.MaxGap: true, impl.MaxGap + 1: false} {
		checkPlanOk(t, planOf(40, gap, sl(1, 4)), want)
	}
	for n := range impl.MaxSlots + 4 {
		checkPlanOk(t, planWith(n), n >= 1 && n <= impl.MaxSlots)
	}
}

// A slot at and beyond its limits, at every place among others.
func TestPlanOkOfEachSlot(t *testing.T) {
	owners := map[int]bool{-1: false, 0: true, 1: true, impl.MaxNodes - 1: true, impl.MaxNodes: false}
	longs := map[int]bool{-1: false, 0: false, 1: true, 2: true, impl.MaxLong - 1: true, impl.MaxLong: true, impl.MaxLong + 1: false}
	for place := range impl.MaxSlots {
		for owner, is := range owners {
			for long, has := range longs {
				p := planWith(impl.MaxSlots)
				p.Slots[place] = sl(owner, long)
				checkPlanOk(t, p, is && has)
			}
		}
	}
}

// Beside a plan that is none every answer is the one that the document names, whatever else is right.
func TestOfAPlanThatIsNoneNothingIsTold(t *testing.T) {
	numbers := []int{math.MinInt, -far, -1, 0, 1, 4, 40, 41, 44, 90, far - 1, far, far + 1, math.MaxInt}
	for name, p := range wrongPlans() {
		t.Run(name, func(t *testing.T) {
			checkRoundOf(t, p, 0)
			checkOwnersOf(t, p)
			for _, x := range numbers {
				checkSlotFrom(t, p, x, numAnswer{})
				checkSlotAt(t, p, x, none())
				checkShareOf(t, p, x, fracAnswer{})
				checkPlanMoved(t, p, x, planAnswer{})
				for _, y := range numbers {
					checkOccurrence(t, p, x, y, pairAnswer{})
					checkNextOwn(t, p, x, y, none())
					for _, z := range numbers {
						checkInSlot(t, p, x, y, z, none())
					}
				}
			}
			// Moved to where its Start would be right it is refused still, also where Start alone is wrong.
			checkPlanMoved(t, p, 1, planAnswer{})
			checkPlanMoved(t, p, -1, planAnswer{})
		})
	}
}

func TestRoundsAndWhereSlotsBegin(t *testing.T) {
	cases := []struct {
		p     impl.Plan
		round int
		from  []int
	}{
		{planOf(10, 2, sl(0, 5), sl(1, 3)), 12, []int{0, 7}},
		{planOf(10, 0, sl(0, 5), sl(1, 3)), 8, []int{0, 5}},
		{planOf(far, 1, sl(0, 1)), 2, []int{0}},
		{planOf(0, 0, sl(0, 1)), 1, []int{0}},
		{planOf(7, 4, sl(2, 1), sl(2, 6), sl(5, 1), sl(2, 2)), 26, []int{0, 5, 15, 20}},
		{planOf(0, impl.MaxGap, sl(1, impl.MaxLong), sl(0, 1)), 1200001, []int{0, 1100000}},
		{planOf(0, impl.MaxGap, slotsAlike(impl.MaxSlots, sl(7, impl.MaxLong))...), 13200000, []int{
			0, 1100000, 2200000, 3300000, 4400000, 5500000, 6600000, 7700000, 8800000, 9900000, 11000000, 12100000,
		}},
	}
	for _, c := range cases {
		checkRoundOf(t, c.p, c.round)
		for i, from := range c.from {
			checkSlotFrom(t, c.p, i, numAnswer{from, true})
		}
		for _, i := range []int{math.MinInt, -2, -1, len(c.from), len(c.from) + 1, impl.MaxSlots, math.MaxInt} {
			checkSlotFrom(t, c.p, i, numAnswer{})
			checkOccurrence(t, c.p, i, 0, pairAnswer{})
			checkOccurrence(t, c.p, i, 1, pairAnswer{})
		}
	}
}

func TestOccurrencesOrdinary(t *testing.T) {
	p := planOf(10, 2, sl(0, 5), sl(1, 3))
	checkOccurrence(t, p, 0, 0, occurs(10, 15))
	checkOccurrence(t, p, 1, 0, occurs(17, 20))
	checkOccurrence(t, p, 0, 1, occurs(22, 27))
	checkOccurrence(t, p, 1, 2, occurs(41, 44))
	checkOccurrence(t, p, 0, 1000000000, occurs(12000000010, 12000000015))
	checkOccurrence(t, planOf(0, 0, sl(3, 1)), 0, 0, occurs(0, 1))
	for _, i := range []int{-1, 2} {
		checkOccurrence(t, p, i, 0, pairAnswer{})
	}
	for _, k := range []int{math.MinInt, -far, -2, -1} {
		checkOccurrence(t, p, 0, k, pairAnswer{})
		checkOccurrence(t, p, 1, k, pairAnswer{})
	}
}

// The last round of which an occurrence ends by MaxTime, and the one behind it.
func TestOccurrencesAtTheEndOfTime(t *testing.T) {
	cases := []struct {
		p    impl.Plan
		i, k int
		last pairAnswer
	}{
		// It ends at just MaxTime.
		{planOf(0, 0, sl(0, 1)), 0, far - 1, occurs(far-1, far)},
		{planOf(0, 0, sl(0, 10)), 0, far/10 - 1, occurs(far-10, far)},
		{planOf(far-1, 0, sl(0, 1)), 0, 0, occurs(far-1, far)},
		{planOf(far-impl.MaxLong, impl.MaxGap, sl(0, impl.MaxLong)), 0, 0, occurs(far-impl.MaxLong, far)},
		{planOf(far-20, 5, sl(0, 7), sl(1, 8)), 1, 0, occurs(far-8, far)},
		{planOf(0, 5, sl(0, 5), sl(1, 5)), 0, far/20 - 1, occurs(far-20, far-15)},
		{planOf(0, 5, sl(0, 5), sl(1, 5)), 1, far/20 - 1, occurs(far-10, far-5)},
		{planOf(15, 5, sl(0, 5), sl(1, 5)), 0, far/20 - 1, occurs(far-5, far)},
		// One slot of a round ends in time, the other one of the same round does not.
		{planOf(10, 5, sl(0, 5), sl(1, 5)), 0, far/20 - 1, occurs(far-10, far-5)},
		{planOf(10, 5, sl(0, 5), sl(1, 5)), 1, far/20 - 2, occurs(far-20, far-15)},
		{planOf(1, 0, sl(0, 10)), 0, far/10 - 2, occurs(far-19, far-9)},
	}
	for _, c := range cases {
		checkOccurrence(t, c.p, c.i, c.k, c.last)
		checkOccurrence(t, c.p, c.i, c.k+1, pairAnswer{})
		checkSlotAt(t, c.p, c.last.a.Lo, turn(c.i, c.k))
		checkSlotAt(t, c.p, c.last.a.Hi-1, turn(c.i, c.k))
	}
	// None at all ends in time.
	for _, p := range []impl.Plan{planOf(far, 0, sl(0, 1)), planOf(far-1, 0, sl(0, 2)), planOf(far-impl.MaxLong+1, 0, sl(0, impl.MaxLong))} {
		checkOccurrence(t, p, 0, 0, pairAnswer{})
		checkOccurrence(t, p, 0, 1, pairAnswer{})
		for _, at := range []int{p.Start, far - 1, far} {
			checkSlotAt(t, p, at, none())
			checkNextOwn(t, p, 0, at, none())
		}
		checkNextOwn(t, p, 0, 0, none())
	}
}

// Where a round as far away as can be would begin leaves 64 bits; none of these may seem to be back within MaxTime.
func TestOccurrencesOfRoundsFarAway(t *testing.T) {
	rounds := []int{far / 2, far - 1, far, far + 1, 2 * far, math.MaxInt / 2, math.MaxInt - 1, math.MaxInt}
	// Rounds of 2 to the power of n times these wrap round to just 0.
	for n := range 63 {
		rounds = append(rounds, 1<<n, -1<<n, math.MaxInt-1<<n)
	}
	// With the longest rounds products wrap round behind these.
	for n := 1; n <= 20; n++ {
		rounds = append(rounds, math.MaxInt/(660000*n)+1, math.MaxInt/(1100000*n)+1)
	}
	plans := append(rightPlans(), planOf(0, 0, sl(1, 1<<19)), planOf(0, 0, slotsAlike(8, sl(1, 1<<19))...), planOf(3, 0, slotsAlike(4, sl(1, 1<<18))...))
	for _, p := range plans {
		for _, k := range rounds {
			for _, i := range []int{0, len(p.Slots) - 1} {
				checkOccurrence(t, p, i, k, wantOccurrence(p, i, k))
			}
		}
		for _, k := range []int{far, far + 1, math.MaxInt} {
			checkOccurrence(t, p, 0, k, pairAnswer{})
		}
	}
}

func TestSlotAtOrdinary(t *testing.T) {
	p := planOf(10, 2, sl(0, 5), sl(1, 3))
	want := map[int]slotAnswer{
		// Ahead of Start, also just as far as a slot of a round ahead of the first would be.
		math.MinInt: none(), -far: none(), -2: none(), -1: none(), 0: none(), 1: none(), 5: none(), 7: none(), 8: none(), 9: none(),
		10: turn(0, 0), 11: turn(0, 0), 14: turn(0, 0),
		// The gap, from its beginning to its end.
		15: none(), 16: none(),
		17: turn(1, 0), 19: turn(1, 0), 20: none(), 21: none(), 22: turn(0, 1), 26: turn(0, 1), 27: none(), 28: none(), 29: turn(1, 1), 31: turn(1, 1), 32: none(), 33: none(),
		34: turn(0, 2), 41: turn(1, 2), 43: turn(1, 2), 44: none(), 45: none(), 46: turn(0, 3),
		12000000010: turn(0, 1000000000), 12000000015: none(), 12000000017: turn(1, 1000000000),
	}
	for at, turn := range want {
		checkSlotAt(t, p, at, turn)
	}
	// Without gaps each slot begins where the one ahead ends.
	for at, turn := range map[int]slotAnswer{9: none(), 10: turn(0, 0), 14: turn(0, 0), 15: turn(1, 0), 17: turn(1, 0), 18: turn(0, 1), 22: turn(0, 1), 23: turn(1, 1)} {
		checkSlotAt(t, planOf(10, 0, sl(0, 5), sl(1, 3)), at, turn)
	}
}

// At MaxTime and beyond there is never a slot, for what has begun has not ended by then.
func TestSlotAtTheEndOfTime(t *testing.T) {
	for _, p := range rightPlans() {
		for _, at := range []int{-1, far, far + 1, math.MaxInt, math.MinInt} {
			checkSlotAt(t, p, at, none())
			for owner := range impl.MaxNodes {
				checkInSlot(t, p, owner, at, at, none())
				checkInSlot(t, p, owner, at, far, none())
			}
		}
	}
	p := planOf(0, 0, sl(0, 10))
	checkSlotAt(t, p, far-1, turn(0, far/10-1))
	checkInSlot(t, p, 0, far-10, far, turn(0, far/10-1))
	checkInSlot(t, p, 0, far-1, far, turn(0, far/10-1))
	checkInSlot(t, p, 0, far-1, far+1, none())
	// The occurrence that has begun at MaxTime, or ends one behind it, runs over: none of its times has a slot.
	late := planOf(1, 0, sl(0, 10))
	for at := far - 9; at <= far; at++ {
		checkSlotAt(t, late, at, none())
		checkInSlot(t, late, 0, at, at, none())
	}
	checkSlotAt(t, late, far-10, turn(0, far/10-2))
	for at := far - 30; at <= far; at++ {
		checkSlotAt(t, planOf(far-30, 0, sl(0, 31)), at, none())
		checkSlotAt(t, planOf(far-30, 0, sl(0, 10), sl(1, 21)), at, map[bool]slotAnswer{true: turn(0, 0)}[at < far-20])
	}
}

func TestInSlotOrdinary(t *testing.T) {
	p := planOf(10, 2, sl(0, 5), sl(1, 3), sl(0, 4))
	cases := []struct {
		owner, from, to int
		want            slotAnswer
	}{
		{0, 10, 15, turn(0, 0)},
		{0, 10, 16, none()},
		{0, 10, 10, turn(0, 0)},
		{0, 10, 9, none()},
		{0, 9, 12, none()},
		{0, 9, 9, none()},
		{0, 14, 14, turn(0, 0)},
		{0, 14, 15, turn(0, 0)},
		{0, 14, 16, none()},
		{0, 14, 13, none()},
		// It has ended at its Hi, and what begins there is in no slot.
		{0, 15, 15, none()},
		{0, 16, 16, none()},
		{1, 17, 20, turn(1, 0)},
		{1, 17, 21, none()},
		{1, 16, 20, none()},
		{0, 22, 26, turn(2, 0)},
		{0, 22, 27, none()},
		{0, 10, 26, none()},
		{0, 28, 33, turn(0, 1)},
		{1, 35, 38, turn(1, 1)},
		{0, 40, 44, turn(2, 1)},
		// Others' slots, and owners that have none or are none.
		{1, 10, 15, none()},
		{0, 17, 20, none()},
		{2, 10, 15, none()},
		{7, 10, 15, none()},
		{-1, 10, 15, none()},
		{impl.MaxNodes, 10, 15, none()},
		{math.MinInt, 10, 15, none()},
		{math.MaxInt, 10, 15, none()},
		{0, 10, math.MaxInt, none()},
		{0, 10, math.MinInt, none()},
		{0, math.MinInt, 15, none()},
		{0, math.MaxInt, 15, none()},
		{0, math.MinInt, math.MaxInt, none()},
	}
	for _, c := range cases {
		checkInSlot(t, p, c.owner, c.from, c.to, c.want)
	}
	// Without gaps it may reach up to where the next slot begins, and no farther, also where that is the same owner's.
	tight := planOf(10, 0, sl(0, 5), sl(0, 3))
	checkInSlot(t, tight, 0, 10, 15, turn(0, 0))
	checkInSlot(t, tight, 0, 10, 16, none())
	checkInSlot(t, tight, 0, 15, 18, turn(1, 0))
	checkInSlot(t, tight, 0, 15, 15, turn(1, 0))
	checkInSlot(t, tight, 0, 17, 19, none())
}

func TestNextOwnOrdinary(t *testing.T) {
	p := planOf(10, 2, sl(0, 5), sl(1, 3), sl(0, 4))
	cases := []struct {
		owner, at int
		want      slotAnswer
	}{
		// Ahead of Start, just at the beginning of an own slot, one behind it, and in the last times of a round.
		{0, 0, turn(0, 10)},
		{0, 9, turn(0, 10)},
		{0, 10, turn(0, 10)},
		{0, 11, turn(2, 22)},
		{0, 15, turn(2, 22)},
		{0, 22, turn(2, 22)},
		{0, 23, turn(0, 28)},
		{0, 27, turn(0, 28)},
		{0, 28, turn(0, 28)},
		{0, 29, turn(2, 40)},
		{1, 0, turn(1, 17)},
		{1, 17, turn(1, 17)},
		{1, 18, turn(1, 35)},
		{1, 34, turn(1, 35)},
		{1, 36, turn(1, 53)},
		{1, 18000000000, turn(1, 18000000017)},
		// Owners that have no slot or are none, and times that are none.
		{2, 0, none()},
		{7, 18, none()},
		{-1, 0, none()},
		{impl.MaxNodes, 0, none()},
		{math.MinInt, 0, none()},
		{math.MaxInt, 0, none()},
		{0, -1, none()},
		{0, far + 1, none()},
		{0, math.MinInt, none()},
		{0, math.MaxInt, none()},
	}
	for _, c := range cases {
		checkNextOwn(t, p, c.owner, c.at, c.want)
	}
	checkNextOwn(t, planOf(0, 0, sl(3, 1)), 3, 0, turn(0, 0))
	checkNextOwn(t, planOf(far-1, 0, sl(3, 1)), 3, 0, turn(0, far-1))
}

func TestNextOwnAtTheEndOfTime(t *testing.T) {
	// The last one of 0 ends at far - 15, the last one of 1 at far - 5.
	p := planOf(0, 5, sl(0, 5), sl(1, 5))
	checkNextOwn(t, p, 0, far-20, turn(0, far-20))
	checkNextOwn(t, p, 0, far-19, none())
	checkNextOwn(t, p, 1, far-19, turn(1, far-10))
	checkNextOwn(t, p, 1, far-10, turn(1, far-10))
	checkNextOwn(t, p, 1, far-9, none())
	checkNextOwn(t, p, 1, far, none())
	// The next one would end at just MaxTime, and then one behind it.
	checkNextOwn(t, planOf(15, 5, sl(0, 5), sl(1, 5)), 0, far-20, turn(0, far-5))
	checkNextOwn(t, planOf(16, 5, sl(0, 5), sl(1, 5)), 0, far-20, none())
	checkNextOwn(t, planOf(16, 5, sl(0, 5), sl(1, 5)), 0, far-24, turn(0, far-24))
	// Its first slot of the round runs over where one that is shorter would not; but that begins later still.
	checkNextOwn(t, planOf(far-10, 0, sl(0, 11), sl(0, 1)), 0, far-11, none())
	checkNextOwn(t, planOf(far-10, 0, sl(0, 9), sl(0, 1)), 0, far-9, turn(1, far-1))
	checkNextOwn(t, planOf(far-10, 0, sl(0, 9), sl(0, 2)), 0, far-9, none())
	for _, p := range rightPlans() {
		for owner := range impl.MaxNodes {
			checkNextOwn(t, p, owner, far, none())
			checkNextOwn(t, p, owner, far+1, none())
		}
	}
}

func TestOwnersAndShares(t *testing.T) {
	p := planOf(10, 2, sl(5, 5), sl(1, 3), sl(5, 4), sl(0, 1), sl(1, 3))
	checkOwnersOf(t, p, 0, 1, 5)
	// Of 26 in all.
	for owner, want := range map[int]fracAnswer{
		0: share(1, 26), 1: share(3, 13), 5: share(9, 26),
		// Owners without a slot, and such as are no nodes, have nothing, and that is told.
		2: share(0, 1), 3: share(0, 1), 7: share(0, 1), -1: share(0, 1), impl.MaxNodes: share(0, 1), 5 - impl.MaxNodes: share(0, 1), 5 + impl.MaxNodes: share(0, 1), math.MinInt: share(0, 1), math.MaxInt: share(0, 1),
	} {
		checkShareOf(t, p, owner, want)
	}
	checkShareOf(t, planOf(10, 2, sl(0, 5), sl(1, 3)), 0, share(5, 12))
	checkShareOf(t, planOf(10, 0, sl(0, 5), sl(0, 3)), 0, share(1, 1))
	checkShareOf(t, planOf(far, 0, sl(7, 1)), 7, share(1, 1))
	checkShareOf(t, planOf(0, impl.MaxGap, sl(2, impl.MaxLong)), 2, share(10, 11))
	checkShareOf(t, planOf(0, impl.MaxGap, sl(2, 1)), 2, share(1, impl.MaxGap+1))
	checkShareOf(t, planOf(0, impl.MaxGap, slotsAlike(impl.MaxSlots, sl(7, impl.MaxLong))...), 7, share(10, 11))
	// Every set of owners, each in descending order and some twice.
	for set := 1; set < 1<<impl.MaxNodes; set++ {
		var want []int
		q := planOf(0, 0)
		for node := range impl.MaxNodes {
			if set>>node&1 == 1 {
				want = append(want, node)
				q.Slots = slices.Insert(q.Slots, 0, sl(node, 1+node))
			}
		}
		checkOwnersOf(t, q, want...)
		q.Slots = append(q.Slots, q.Slots[:min(len(q.Slots), impl.MaxSlots-len(q.Slots))]...)
		checkOwnersOf(t, q, want...)
	}
}

func TestPlanMovedAtItsLimits(t *testing.T) {
	slots := []impl.Slot{sl(0, 5), sl(1, 3)}
	cases := []struct {
		start, by int
		ok        bool
	}{
		{40, 0, true},
		{40, 1, true},
		{40, -1, true},
		{40, -40, true},
		{40, -41, false},
		{40, far - 40, true},
		{40, far - 39, false},
		{40, far, false},
		{40, far + 1, false},
		{0, 0, true},
		{0, -1, false},
		{0, far, true},
		{0, far - 1, true},
		{0, far + 1, false},
		{1, far, false},
		{far, 0, true},
		{far, 1, false},
		{far, -far, true},
		{far, -far + 1, true},
		{far, -far - 1, false},
		{far, far, false},
		{far - 1, -far, false},
		{40, math.MaxInt, false},
		{40, math.MinInt, false},
		{far, math.MinInt, false},
		{far, math.MaxInt, false},
		{0, math.MinInt, false},
	}
	for _, c := range cases {
		p, want := planOf(c.start, 2, slots...), planAnswer{}
		if c.ok {
			want = planAnswer{planOf(c.start+c.by, 2, slots...), true}
		}
		checkPlanMoved(t, p, c.by, want)
	}
}

// All that a plan is asked for.
type planAsked struct {
	slots, rounds, times, owners, moves []int
}

// Each time at, one below and one above each end of an occurrence, in the first rounds, in the last ones, and between; and those that are no times.
func timesOf(p impl.Plan) []int {
	all := []int{math.MinInt, -1, 0, 1, p.Start - 1, p.Start, p.Start + 1, far / 3, far - 1, far, far + 1, math.MaxInt}
	last := (far - p.Start) / wantRoundOf(p)
	for _, k := range []int{0, 1, last / 2, last - 1, last} {
		for i := range p.Slots {
			if at := wantOccurrence(p, i, k); at.ok {
				all = append(all, at.a.Lo-1, at.a.Lo, at.a.Lo+1, wantMiddle(at.a).n, at.a.Hi-1, at.a.Hi, at.a.Hi+1)
			}
		}
	}
	slices.Sort(all)
	return slices.Compact(all)
}

func askedOf(p impl.Plan) planAsked {
	last := (far - p.Start) / wantRoundOf(p)
	return planAsked{
		slots:  []int{math.MinInt, -1, 0, 1, 2, len(p.Slots) - 1, len(p.Slots), impl.MaxSlots, math.MaxInt},
		rounds: []int{math.MinInt, -1, 0, 1, 2, last - 2, last - 1, last, last + 1, last + 2, far - 1, far, far + 1, math.MaxInt},
		times:  timesOf(p),
		owners: []int{math.MinInt, -1, 0, 1, 2, 6, 7, 8, math.MaxInt},
		moves:  []int{math.MinInt, -far - 1, -far, -p.Start - 1, -p.Start, -1, 0, 1, far - p.Start, far - p.Start + 1, far, far + 1, math.MaxInt},
	}
}

// Every function of the chapter against the document's words written again, at all of these.
func checkPlanFunctions(t *testing.T, p impl.Plan, with planAsked) {
	t.Helper()
	checkPlanOk(t, p, wantPlanOk(p))
	checkRoundOf(t, p, wantRoundOf(p))
	checkOwnersOf(t, p, wantOwnersOf(p)...)
	for _, i := range with.slots {
		checkSlotFrom(t, p, i, wantSlotFrom(p, i))
		for _, k := range with.rounds {
			checkOccurrence(t, p, i, k, wantOccurrence(p, i, k))
		}
	}
	for _, by := range with.moves {
		checkPlanMoved(t, p, by, wantPlanMoved(p, by))
	}
	for _, owner := range with.owners {
		checkShareOf(t, p, owner, wantShareOf(p, owner))
	}
	for n, at := range with.times {
		near := occurrencesNear(p, at)
		checkSlotAt(t, p, at, wantSlotAt(near, at))
		ends := append([]int{math.MinInt, math.MaxInt, far, far + 1}, with.times[max(0, n-3):min(len(with.times), n+9)]...)
		for _, owner := range with.owners {
			checkNextOwn(t, p, owner, at, wantNextOwn(p, near, owner, at))
			for _, to := range ends {
				checkInSlot(t, p, owner, at, to, wantInSlot(p, near, owner, at, to))
			}
		}
	}
}

func TestPlansAsTheDocumentSays(t *testing.T) {
	for _, p := range rightPlans() {
		checkPlanFunctions(t, p, askedOf(p))
	}
	draw := &lottery{state: 13}
	for range 60 {
		p := draw.smallPlan()
		checkPlanFunctions(t, p, askedOf(p))
		p = draw.anyPlan()
		checkPlanFunctions(t, p, askedOf(p))
	}
}

// Every plan of up to two of these slots, right and wrong, at and beyond each limit of Start and Gap (P23).
func TestPlansAtTheirLimitsAsTheDocumentSays(t *testing.T) {
	pool := []impl.Slot{sl(0, 1), sl(7, 3), sl(0, impl.MaxLong), sl(-1, 2), sl(8, 2), sl(2, 0), sl(2, impl.MaxLong+1), sl(math.MinInt, math.MaxInt)}
	right := 0
	for _, slots := range listsOf(pool, 2) {
		for _, start := range []int{math.MinInt, -1, 0, far - 4, far, far + 1, math.MaxInt} {
			for _, gap := range []int{math.MinInt, -1, 0, 2, impl.MaxGap, impl.MaxGap + 1, math.MaxInt} {
				p := planOf(start, gap, slots...)
				if with := planOf(0, 1, sl(0, 1), sl(7, 3)); !wantPlanOk(p) {
					checkPlanFunctions(t, p, askedOf(with))
					continue
				}
				checkPlanFunctions(t, p, askedOf(p))
				right++
			}
		}
	}
	if right < 100 {
		t.Fatal("too few", right)
	}
}
