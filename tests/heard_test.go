package tests

import (
	"math"
	"slices"
	"strings"
	"testing"

	"loop.example/g00072/impl"
)

func TestLimitsOfHeardSlots(t *testing.T) {
	if limits := [4]int{impl.MaxHeard, impl.HearDone, impl.HearBad, impl.HearNot}; limits != [4]int{16, 0, 1, 2} {
		t.Error(limits)
	}
}

func checkHeardOk(t *testing.T, list []impl.Heard, want bool) {
	t.Helper()
	if got := impl.HeardOk(list); got != want {
		t.Fatalf("HeardOk(%v) is %v", list, got)
	}
}

func checkHear(t *testing.T, list []impl.Heard, p impl.Plan, m impl.Msg, count int, want hearAnswer) {
	t.Helper()
	got, code := impl.Hear(list, p, m, count)
	if !slices.Equal(got, want.list) || code != want.code {
		t.Fatalf("Hear(%v, %v, %#v, %d): got %v, %d, want %v", list, p, m, count, got, code, want)
	}
}

func checkNow(t *testing.T, list []impl.Heard, p impl.Plan, d impl.Drift, count int, want ...int) {
	t.Helper()
	if got := impl.HeardNow(list, p, d, count); !slices.Equal(got, want) {
		t.Fatalf("HeardNow(%v, %v, %v, %d): got %v, want %v", list, p, d, count, got, want)
	}
}

func checkLost(t *testing.T, list []impl.Heard, p impl.Plan, d impl.Drift, count int, want ...int) {
	t.Helper()
	if got := impl.HeardLost(list, p, d, count); !slices.Equal(got, want) {
		t.Fatalf("HeardLost(%v, %v, %v, %d): got %v, want %v", list, p, d, count, got, want)
	}
}

func checkUnlike(t *testing.T, a, b []impl.Heard, want ...int) {
	t.Helper()
	if got := impl.HeardUnlike(a, b); !slices.Equal(got, want) {
		t.Fatalf("HeardUnlike(%v, %v): got %v, want %v", a, b, got, want)
	}
}

func checkHeardOwners(t *testing.T, list []impl.Heard, p impl.Plan, want ...int) {
	t.Helper()
	if got := impl.HeardOwners(list, p); !slices.Equal(got, want) {
		t.Fatalf("HeardOwners(%v, %v): got %v, want %v", list, p, got, want)
	}
}

func hearDone(list ...impl.Heard) hearAnswer { return hearAnswer{list, impl.HearDone} }

func hearBad() hearAnswer { return hearAnswer{code: impl.HearBad} }

func hearNot(list ...impl.Heard) hearAnswer { return hearAnswer{list, impl.HearNot} }

func TestHeardOkAtItsLimits(t *testing.T) {
	checkHeardOk(t, nil, true)
	checkHeardOk(t, heards(), true)
	// The zero value is one: the slot 0 was heard at the count 0.
	checkHeardOk(t, heards(impl.Heard{}), true)
	for n := range impl.MaxHeard + 1 {
		checkHeardOk(t, heardWith(n), true)
	}
	for slot, want := range map[int]bool{-1: false, 0: true, 1: true, impl.MaxSlots: true, impl.MaxHeard - 1: true, impl.MaxHeard: false} {
		checkHeardOk(t, heards(hd(slot, 50)), want)
	}
	for at, want := range map[int]bool{-1: false, 0: true, 1: true, far - 1: true, far: true, far + 1: false} {
		checkHeardOk(t, heards(hd(4, at)), want)
		checkHeardOk(t, heards(hd(0, 50), hd(4, at), hd(15, 50)), want)
	}
	// The counts may be in any order, and alike.
	checkHeardOk(t, heards(hd(0, far), hd(1, 0), hd(7, 50), hd(15, 50)), true)
	for name, list := range wrongHeardLists() {
		if impl.HeardOk(list) || wantHeardOk(list) {
			t.Errorf("%s: it is HeardOk", name)
		}
	}
}

// Every two slots at every two places of MaxHeard: swapped, and alike.
func TestHeardOkOfSlotsAtAnyTwoPlaces(t *testing.T) {
	for i := range impl.MaxHeard {
		for j := range impl.MaxHeard {
			list := heardWith(impl.MaxHeard)
			list[i].Slot, list[j].Slot = list[j].Slot, list[i].Slot
			checkHeardOk(t, list, i == j)
			list = heardWith(impl.MaxHeard)
			list[i].Slot = list[j].Slot
			checkHeardOk(t, list, i == j)
		}
		list := heardWith(impl.MaxHeard)
		list[i].At = -1
		checkHeardOk(t, list, false)
		list[i].At = far + 1
		checkHeardOk(t, list, false)
	}
}

// Of a list that is none nothing is told, whatever else is right or wrong.
func TestOfHeardSlotsThatAreNoneNothingIsTold(t *testing.T) {
	p := planWith(6)
	for name, list := range wrongHeardLists() {
		t.Run(name, func(t *testing.T) {
			for i, s := range p.Slots {
				checkHear(t, list, p, frame(s.Owner, i, ""), 60, hearBad())
			}
			checkHear(t, list, p, impl.Msg{}, 60, hearBad())
			checkHear(t, list, impl.Plan{}, impl.Msg{}, -1, hearBad())
			for _, count := range []int{math.MinInt, -1, 0, 50, 60, far, far + 1, math.MaxInt} {
				checkNow(t, list, p, dr(1, 4), count)
				checkLost(t, list, p, dr(1, 4), count)
				checkNow(t, list, impl.Plan{}, dr(1, 1), count)
				checkLost(t, list, impl.Plan{}, dr(1, 1), count)
			}
			checkUnlike(t, list, nil)
			checkUnlike(t, nil, list)
			checkUnlike(t, list, list)
			checkUnlike(t, list, heardWith(impl.MaxHeard))
			checkUnlike(t, heardWith(5), list)
			checkHeardOwners(t, list, p)
			checkHeardOwners(t, list, impl.Plan{})
		})
	}
}

// Of a plan that is none nothing is told either, though a frame, a slot or a count is there.
func TestHeardByAPlanThatIsNone(t *testing.T) {
	list := heards(hd(0, 50), hd(2, 55), hd(15, 60))
	for name, p := range wrongPlans() {
		t.Run(name, func(t *testing.T) {
			for i, s := range p.Slots {
				checkHear(t, list, p, frame(s.Owner, i, ""), 60, hearBad())
			}
			for _, m := range unheard(0, 0) {
				checkHear(t, list, p, m, 60, hearBad())
			}
			checkHear(t, nil, p, frame(0, 0, ""), 60, hearBad())
			for _, count := range []int{0, 50, 60, far, -1} {
				checkNow(t, list, p, dr(0, 1), count)
				checkLost(t, list, p, dr(0, 1), count)
				checkLost(t, nil, p, dr(0, 1), count)
			}
			checkHeardOwners(t, list, p)
			checkHeardOwners(t, nil, p)
		})
	}
}

func TestHeardByADriftThatIsNone(t *testing.T) {
	p, list := planWith(6), heards(hd(0, 50), hd(2, 55), hd(15, 60))
	for _, d := range wrongDrifts() {
		for _, count := range []int{0, 50, 60, 1000, far, -1} {
			checkNow(t, list, p, d, count)
			checkLost(t, list, p, d, count)
			checkNow(t, nil, p, d, count)
			checkLost(t, nil, p, d, count)
		}
	}
	checkNow(t, list, p, dr(0, 1), 60, 0, 2, 15)
	checkLost(t, list, p, dr(0, 1), 60, 1, 3, 4, 5)
}

func TestHeardAtACountThatIsNone(t *testing.T) {
	p, list := planOf(10, 2, sl(0, 5), sl(1, 3)), heards(hd(0, 0), hd(15, far))
	for _, count := range []int{math.MinInt, -far, -1, far + 1, 2 * far, math.MaxInt} {
		checkHear(t, list, p, frame(1, 1, ""), count, hearBad())
		checkHear(t, list, p, frame(0, 1, ""), count, hearBad())
		checkHear(t, nil, p, impl.Msg{}, count, hearBad())
		checkNow(t, list, p, dr(0, 1), count)
		checkLost(t, list, p, dr(0, 1), count)
		checkNow(t, nil, p, dr(0, 1), count)
		checkLost(t, nil, p, dr(0, 1), count)
	}
	checkHear(t, list, p, frame(1, 1, ""), 0, hearDone(hd(0, 0), hd(1, 0), hd(15, far)))
	checkHear(t, list, p, frame(1, 1, ""), far, hearDone(hd(0, 0), hd(1, far), hd(15, far)))
	checkNow(t, list, p, dr(0, 1), 0, 0)
	checkLost(t, list, p, dr(0, 1), 0, 1)
	checkNow(t, list, p, dr(0, 1), far, 15)
	checkLost(t, list, p, dr(0, 1), far, 0, 1)
}

func TestHearAtItsPlace(t *testing.T) {
	p := planOf(10, 2, sl(4, 5), sl(1, 3), sl(4, 2), sl(0, 1), sl(7, 9), sl(1, 1))
	a, b, c := hd(1, 100), hd(3, 20), hd(14, 60)
	list := heards(a, b, c)
	for i, s := range p.Slots {
		h := hd(i, 55)
		want := map[int]hearAnswer{
			0: hearDone(h, a, b, c), 1: hearDone(h, b, c), 2: hearDone(a, h, b, c), 3: hearDone(a, h, c), 4: hearDone(a, b, h, c), 5: hearDone(a, b, h, c),
		}
		for _, body := range []string{"", "x", "\x00\xff\n", strings.Repeat("z", impl.MaxBody)} {
			checkHear(t, list, p, frame(s.Owner, i, body), 55, want[i])
			checkHear(t, nil, p, frame(s.Owner, i, body), 55, hearDone(h))
			checkHear(t, heards(), p, frame(s.Owner, i, body), 55, hearDone(h))
			checkHear(t, heards(hd(0, 9)), p, frame(s.Owner, i, body), 55, wantHear(heards(hd(0, 9)), p, frame(s.Owner, i, body), 55))
		}
	}
	// A count below the one that is there counts all the same, and the same one changes nothing.
	checkHear(t, list, p, frame(1, 1, ""), 0, hearDone(hd(1, 0), b, c))
	checkHear(t, list, p, frame(1, 1, ""), 99, hearDone(hd(1, 99), b, c))
	checkHear(t, list, p, frame(1, 1, ""), 100, hearDone(a, b, c))
	checkHear(t, list, p, frame(1, 1, ""), 101, hearDone(hd(1, 101), b, c))
}

// From none to all slots of the longest plan, in an order that is not theirs; each may then be heard once more.
func TestHearAllSlotsOfAPlan(t *testing.T) {
	p := planWith(impl.MaxSlots)
	var list []impl.Heard
	for n := range impl.MaxSlots {
		i := n * 5 % impl.MaxSlots
		next, code := impl.Hear(list, p, frame(p.Slots[i].Owner, i, ""), 100+n)
		if code != impl.HearDone || len(next) != n+1 || !impl.HeardOk(next) || !hasHeard(next, i) {
			t.Fatalf("%v with %d: %v, %d", list, i, next, code)
		}
		list = next
	}
	for i, s := range p.Slots {
		want := slices.Clone(list)
		want[i].At = far
		checkHear(t, list, p, frame(s.Owner, i, ""), far, hearDone(want...))
		// Beside those that no plan has.
		all := heardWith(impl.MaxHeard)
		want = slices.Clone(all)
		want[i].At = 7
		checkHear(t, all, p, frame(s.Owner, i, ""), 7, hearDone(want...))
	}
}

func TestWhatIsNotHeard(t *testing.T) {
	p := planOf(10, 2, sl(4, 5), sl(1, 3), sl(4, 2))
	for i, s := range p.Slots {
		for _, list := range [][]impl.Heard{nil, heardWith(1), heardWith(3), heardWith(impl.MaxHeard), heards(hd(2, far), hd(9, 0))} {
			for name, m := range unheard(s.Owner, i) {
				t.Run(name, func(t *testing.T) { checkHear(t, list, p, m, 55, hearNot(list...)) })
			}
			// The one behind the last slot is none of the plan's, nor is any other.
			for slot := len(p.Slots); slot < impl.MaxHeard; slot++ {
				for node := range impl.MaxNodes {
					checkHear(t, list, p, frame(node, slot, ""), 55, hearNot(list...))
				}
			}
		}
	}
}

// Each node in each slot of each length of plan: heard is who owns it, and nobody else.
func TestWhoIsHeardInWhichSlot(t *testing.T) {
	list := heards(hd(2, 9), hd(11, 8), hd(13, 7))
	for n := 1; n <= impl.MaxSlots; n++ {
		p := planWith(n)
		for slot := range impl.MaxHeard {
			for node := range impl.MaxNodes {
				want := hearNot(list...)
				if slot < n && p.Slots[slot].Owner == node {
					want = wantHear(list, p, frame(node, slot, ""), 60)
					if want.code != impl.HearDone {
						t.Fatal("the model", want)
					}
				}
				checkHear(t, list, p, frame(node, slot, ""), 60, want)
			}
		}
	}
}

// A round of 12: by a drift of 1 by 2 more than that may have gone by at 7 counts already, but for sure only at 19; so long a slot is told.
func TestHeardNowAtTheEndOfARound(t *testing.T) {
	p := planOf(10, 2, sl(0, 5), sl(1, 3))
	cases := []struct {
		d    impl.Drift
		last int
	}{
		{dr(0, 1), 12}, {dr(0, impl.MaxDen), 12}, {dr(1, impl.MaxDen), 12}, {dr(1, 13), 12}, {dr(1, 12), 13}, {dr(1, 4), 15}, {dr(1, 3), 16}, {dr(1, 2), 18}, {dr(impl.MaxDen/2, impl.MaxDen), 18},
	}
	for _, c := range cases {
		for _, at := range []int{0, 1, 20, 777, far - 40} {
			list := heards(hd(1, at))
			for gone := range 40 {
				told, lost := []int{1}, []int{0}
				if gone > c.last {
					told, lost = nil, []int{0, 1}
				}
				checkNow(t, list, p, c.d, at+gone, told...)
				checkLost(t, list, p, c.d, at+gone, lost...)
			}
			// Of a count that has not come yet it was not heard.
			for _, count := range []int{at - 1, at - 2, at - 12, 0} {
				if count >= 0 && count < at {
					checkNow(t, list, p, c.d, count)
					checkLost(t, list, p, c.d, count, 0, 1)
				}
			}
		}
	}
}

// The shortest round, and the longest one; Start counts for nothing.
func TestHeardNowByRoundsAtTheirLimits(t *testing.T) {
	short, long := planOf(far, 0, sl(7, 1)), planOf(0, impl.MaxGap, slotsAlike(impl.MaxSlots, sl(7, impl.MaxLong))...)
	round := impl.MaxSlots * (impl.MaxLong + impl.MaxGap)
	all := []int{0, 1, 2, 3, 4, 5, 6, 7, 8, 9, 10, 11}
	checkNow(t, heards(hd(0, 5)), short, dr(0, 1), 5, 0)
	checkNow(t, heards(hd(0, 5)), short, dr(0, 1), 6, 0)
	checkNow(t, heards(hd(0, 5)), short, dr(0, 1), 7)
	checkNow(t, heards(hd(0, 5)), short, dr(1, 2), 6, 0)
	checkNow(t, heards(hd(0, 5)), short, dr(1, 2), 7)
	checkLost(t, heards(hd(0, 5)), short, dr(0, 1), 6)
	checkLost(t, heards(hd(0, 5)), short, dr(0, 1), 7, 0)
	for _, at := range []int{0, 5, far - 2*round} {
		list := heards(hd(11, at))
		checkNow(t, list, long, dr(0, 1), at+round, 11)
		checkLost(t, list, long, dr(0, 1), at+round, all[:11]...)
		checkNow(t, list, long, dr(0, 1), at+round+1)
		checkLost(t, list, long, dr(0, 1), at+round+1, all...)
		checkNow(t, list, long, dr(1, 2), at+round*3/2, 11)
		checkNow(t, list, long, dr(1, 2), at+round*3/2+1)
		checkNow(t, list, long, dr(1, 2), far)
	}
	for _, start := range []int{0, 1, 500, far} {
		p := planOf(start, 2, sl(0, 5), sl(1, 3))
		checkNow(t, heards(hd(1, 20)), p, dr(0, 1), 32, 1)
		checkNow(t, heards(hd(1, 20)), p, dr(0, 1), 33)
	}
}

// Told are also slots that the plan has not; lost are its own alone.
func TestHeardNowAmongMany(t *testing.T) {
	p, d := planOf(10, 2, sl(0, 5), sl(1, 3), sl(0, 1)), dr(0, 1)
	list := heards(hd(0, 80), hd(1, 100), hd(2, 95), hd(3, 85), hd(12, 100), hd(15, 99))
	checkRoundOf(t, p, 15)
	checkNow(t, list, p, d, 94, 0, 3)
	checkLost(t, list, p, d, 94, 1, 2)
	checkNow(t, list, p, d, 95, 0, 2, 3)
	checkLost(t, list, p, d, 95, 1)
	checkNow(t, list, p, d, 96, 2, 3)
	checkLost(t, list, p, d, 96, 0, 1)
	checkNow(t, list, p, d, 100, 1, 2, 3, 12, 15)
	checkLost(t, list, p, d, 100, 0)
	checkNow(t, list, p, d, 101, 1, 2, 12, 15)
	checkNow(t, list, p, d, 114, 1, 12, 15)
	checkNow(t, list, p, d, 115, 1, 12)
	checkLost(t, list, p, d, 115, 0, 2)
	checkNow(t, list, p, d, 116)
	checkLost(t, list, p, d, 116, 0, 1, 2)
	checkNow(t, nil, p, d, 100)
	checkLost(t, nil, p, d, 100, 0, 1, 2)
	// All slots of the plan, and all that may be.
	checkNow(t, heardWith(3), p, d, 52, 0, 1, 2)
	checkLost(t, heardWith(3), p, d, 52)
	every := heardWith(impl.MaxHeard)
	checkNow(t, every, p, d, 53, 0, 1, 2, 3, 4, 5, 6, 7, 8, 9, 10, 11, 12, 13, 14, 15)
	checkLost(t, every, p, d, 53)
	for n := 1; n <= impl.MaxSlots; n++ {
		lost := impl.HeardLost(nil, planWith(n), d, 0)
		for i, slot := range lost {
			if len(lost) != n || slot != i {
				t.Fatalf("of %d slots %v are lost", n, lost)
			}
		}
	}
}

// Every choice of slots, against none and against all, and against some others.
func TestUnlikeOfEveryChoice(t *testing.T) {
	all := 1<<impl.MaxHeard - 1
	slotsOf := func(choice int) []int {
		var slots []int
		for _, h := range heardBy(choice) {
			slots = append(slots, h.Slot)
		}
		return slots
	}
	other := 0
	for choice := range all + 1 {
		list := heardBy(choice)
		checkUnlike(t, list, nil, slotsOf(choice)...)
		checkUnlike(t, nil, list, slotsOf(choice)...)
		checkUnlike(t, list, list)
		checkUnlike(t, list, heardBy(all), slotsOf(all-choice)...)
		other = (other*5 + 12345) % (all + 1)
		checkUnlike(t, list, heardBy(other), slotsOf(choice^other)...)
	}
}

// When a slot was heard counts for nothing.
func TestUnlikeLooksAtSlotsAlone(t *testing.T) {
	a, b := heards(hd(0, 5), hd(3, 9), hd(15, 0)), heards(hd(0, 77), hd(4, 9), hd(15, far))
	checkUnlike(t, a, b, 3, 4)
	checkUnlike(t, b, a, 3, 4)
	checkUnlike(t, heards(hd(7, 0)), heards(hd(7, far)))
	checkUnlike(t, nil, nil)
	checkUnlike(t, heards(), nil)
	checkUnlike(t, a, nil, 0, 3, 15)
}

func TestOwnersOfHeardSlots(t *testing.T) {
	p := planOf(10, 2, sl(4, 5), sl(1, 3), sl(4, 2), sl(0, 1), sl(7, 9))
	checkHeardOwners(t, nil, p)
	checkHeardOwners(t, heards(hd(0, 5)), p, 4)
	checkHeardOwners(t, heards(hd(1, 5)), p, 1)
	checkHeardOwners(t, heards(hd(0, 5), hd(2, 5)), p, 4)
	checkHeardOwners(t, heards(hd(0, 5), hd(1, 5)), p, 1, 4)
	checkHeardOwners(t, heards(hd(3, 5), hd(4, 5)), p, 0, 7)
	checkHeardOwners(t, heards(hd(0, far), hd(1, 0), hd(2, 7), hd(3, 1), hd(4, 9)), p, 0, 1, 4, 7)
	// Slots that the plan has not, alone and beside others.
	checkHeardOwners(t, heards(hd(5, 5)), p)
	checkHeardOwners(t, heards(hd(5, 5), hd(12, 5), hd(15, 5)), p)
	checkHeardOwners(t, heards(hd(4, 5), hd(5, 5), hd(15, 5)), p, 7)
	checkHeardOwners(t, heardWith(impl.MaxHeard), p, 0, 1, 4, 7)
	for n := 1; n <= impl.MaxSlots; n++ {
		checkHeardOwners(t, heardWith(impl.MaxHeard), planWith(n), wantOwnersOf(planWith(n))...)
		checkHeardOwners(t, heardWith(n), planWith(n), wantOwnersOf(planWith(n))...)
		checkHeardOwners(t, heards(hd(n-1, 5)), planWith(n), planWith(n).Slots[n-1].Owner)
	}
}

// The counts at which what is told of a list may turn, one below and one above each, and what is no count.
func countsFor(list []impl.Heard, p impl.Plan, d impl.Drift) []int {
	all := []int{math.MinInt, -1, 0, 1, far - 1, far, far + 1, math.MaxInt}
	most := wantCount(d, wantRoundOf(p), 1)
	for _, h := range list {
		if bigTime(bigOf(h.At)) {
			all = append(all, h.At-1, h.At, h.At+1, h.At+most.n-1, h.At+most.n, h.At+most.n+1)
		}
	}
	slices.Sort(all)
	return slices.Compact(all)
}

type heardAsked struct {
	others [][]impl.Heard
	plans  []impl.Plan
	drifts []impl.Drift
	msgs   []impl.Msg
}

// Every function of the chapter against the document's words written again, at all of these.
func checkHeardFunctions(t *testing.T, list []impl.Heard, with heardAsked) {
	t.Helper()
	checkHeardOk(t, list, wantHeardOk(list))
	for _, other := range append(with.others, list, nil) {
		checkUnlike(t, list, other, wantUnlike(list, other)...)
		checkUnlike(t, other, list, wantUnlike(other, list)...)
	}
	for _, p := range with.plans {
		checkHeardOwners(t, list, p, wantHeardOwners(list, p)...)
		for _, d := range with.drifts {
			for _, count := range countsFor(list, p, d) {
				told := wantNow(list, p, d, count)
				checkNow(t, list, p, d, count, told...)
				checkLost(t, list, p, d, count, wantLost(list, p, d, count, told)...)
			}
		}
		for _, m := range with.msgs {
			for _, count := range []int{math.MinInt, -1, 0, 7, far, far + 1, math.MaxInt} {
				checkHear(t, list, p, m, count, wantHear(list, p, m, count))
			}
		}
	}
}

// Every list of up to three of these, right and wrong, in every order (P16 and P23).
func TestSmallHeardListsAsTheDocumentSays(t *testing.T) {
	pool := heards(hd(0, 5), hd(1, 0), hd(2, 9), hd(15, far), hd(1, far-20), hd(-1, 5), hd(16, 5), hd(3, -1), hd(0, far+1), hd(math.MaxInt, math.MinInt))
	with := heardAsked{
		others: [][]impl.Heard{heards(hd(1, 4), hd(15, 3)), heards(hd(2, 4), hd(1, 4)), heards(hd(3, math.MaxInt))},
		plans:  []impl.Plan{planOf(2, 0, sl(0, 2), sl(1, 2)), planOf(0, 1, sl(3, 3), sl(0, 1), sl(3, 1)), {}},
		drifts: []impl.Drift{dr(0, 1), dr(1, 3), dr(1, 1)},
		msgs:   []impl.Msg{frame(0, 0, ""), frame(1, 1, "x"), frame(0, 1, ""), frame(3, 2, ""), frame(3, 15, ""), probe(0, 1, 5), {}},
	}
	right := 0
	for _, list := range listsOf(pool, 3) {
		checkHeardFunctions(t, list, with)
		if wantHeardOk(list) {
			right++
		}
	}
	if right < 20 {
		t.Fatal("too few", right)
	}
}

func TestHeardListsAsTheDocumentSays(t *testing.T) {
	draw := &lottery{state: 16}
	drifts := rightDrifts()
	for range 200 {
		small, great := draw.smallPlan(), draw.anyPlan()
		list := draw.anyHeards(100)
		with := heardAsked{others: [][]impl.Heard{draw.anyHeards(100)}, plans: []impl.Plan{small, great}, drifts: []impl.Drift{drifts[draw.number(len(drifts))]}}
		for range 10 {
			with.msgs = append(with.msgs, frame(draw.number(impl.MaxNodes), draw.number(impl.MaxHeard), ""))
		}
		i, j := draw.number(len(small.Slots)), draw.number(len(great.Slots))
		with.msgs = append(with.msgs, frame(small.Slots[i].Owner, i, ""), frame(great.Slots[j].Owner, j, ""))
		checkHeardFunctions(t, list, with)
	}
	for _, p := range rightPlans() {
		msgs := []impl.Msg{frame(p.Slots[0].Owner, 0, ""), frame(p.Slots[0].Owner, len(p.Slots), "")}
		for _, m := range unheard(p.Slots[0].Owner, 0) {
			msgs = append(msgs, m)
		}
		checkHeardFunctions(t, draw.anyHeards(1000000), heardAsked{plans: []impl.Plan{p}, drifts: mixedDrifts(), msgs: msgs})
	}
	for _, list := range wrongHeardLists() {
		checkHeardFunctions(t, list, heardAsked{plans: []impl.Plan{planWith(4)}, drifts: []impl.Drift{dr(1, 4)}, msgs: []impl.Msg{frame(0, 0, ""), frame(1, 0, "")}})
	}
}
