package tests

import (
	"math"
	"slices"
	"strings"
	"testing"

	"loop.example/g00072/impl"
)

func TestLimitsOfTheBus(t *testing.T) {
	if limits := [4]int{impl.MaxFrames, impl.BusDone, impl.BusBad, impl.BusFull}; limits != [4]int{60, 0, 1, 2} {
		t.Error(limits)
	}
}

func checkFrameOk(t *testing.T, f impl.Frame, want bool) {
	t.Helper()
	if got := impl.FrameOk(f); got != want {
		t.Fatalf("FrameOk(%v) is %v", f, got)
	}
}

func checkBusOk(t *testing.T, list []impl.Frame, want bool) {
	t.Helper()
	if got := impl.BusOk(list); got != want {
		t.Fatalf("BusOk(%v) is %v", list, got)
	}
}

func checkBusPut(t *testing.T, list []impl.Frame, f impl.Frame, want busAnswer) {
	t.Helper()
	got, code := impl.BusPut(list, f)
	if !slices.Equal(got, want.list) || code != want.code {
		t.Fatalf("BusPut(%v, %v): got %v, %d, want %v", list, f, got, code, want)
	}
}

func checkClashes(t *testing.T, list []impl.Frame, want ...impl.Clash) {
	t.Helper()
	if got := impl.BusClashes(list); !slices.Equal(got, want) {
		t.Fatalf("BusClashes(%v): got %v, want %v", list, got, want)
	}
}

func checkStray(t *testing.T, p impl.Plan, list []impl.Frame, want ...int) {
	t.Helper()
	if got := impl.BusStray(p, list); !slices.Equal(got, want) {
		t.Fatalf("BusStray(%v, %v): got %v, want %v", p, list, got, want)
	}
}

func checkLoad(t *testing.T, list []impl.Frame, from, to int, want loadAnswer) {
	t.Helper()
	got := loadAnswer{impl.BusLoad(list, from, to), impl.BusQuiet(list, from, to)}
	if got.load != want.load || !slices.Equal(got.quiet, want.quiet) {
		t.Fatalf("BusLoad and BusQuiet(%v, %d, %d): got %v, want %v", list, from, to, got, want)
	}
}

func checkHeard(t *testing.T, list []impl.Frame, at int, want ...int) {
	t.Helper()
	if got := impl.BusHeard(list, at); !slices.Equal(got, want) {
		t.Fatalf("BusHeard(%v, %d): got %v, want %v", list, at, got, want)
	}
}

func checkOf(t *testing.T, list []impl.Frame, node int, want ...int) {
	t.Helper()
	if got := impl.BusOf(list, node); !slices.Equal(got, want) {
		t.Fatalf("BusOf(%v, %d): got %v, want %v", list, node, got, want)
	}
}

func busDone(list ...impl.Frame) busAnswer { return busAnswer{list, impl.BusDone} }

func loaded(load int, quiet ...impl.Ival) loadAnswer { return loadAnswer{load, quiet} }

func TestFramesAtTheirLimits(t *testing.T) {
	for _, f := range rightFrames() {
		checkFrameOk(t, f, true)
	}
	for name, f := range wrongFrames() {
		if impl.FrameOk(f) || wantFrameOk(f) {
			t.Errorf("%s: it is FrameOk", name)
		}
	}
	for from, want := range map[int]bool{-1: false, 0: true, 1: true, impl.MaxNodes - 1: true, impl.MaxNodes: false} {
		checkFrameOk(t, fm(from, 1, 2, 10, 12), want)
	}
	// A plan never has so many slots, yet a frame may say them.
	for slot, want := range map[int]bool{-1: false, 0: true, impl.MaxSlots: true, 14: true, 15: true, 16: false} {
		checkFrameOk(t, fm(3, slot, 2, 10, 12), want)
	}
	for round, want := range map[int]bool{-1: false, 0: true, far - 1: true, far: true, far + 1: false} {
		checkFrameOk(t, fm(3, 1, round, 10, 12), want)
	}
	for start, want := range map[int]bool{-1: false, 0: true, 10: true, 11: true, 12: false, 13: false, far: false} {
		checkFrameOk(t, during(start, 12), want)
	}
	for end, want := range map[int]bool{-1: false, 0: false, 9: false, 10: false, 11: true, far - 1: true, far: true, far + 1: false} {
		checkFrameOk(t, during(10, end), want)
	}
	for n := range impl.MaxBody + 4 {
		f := during(10, 12)
		f.Body = strings.Repeat("\xff", n)
		checkFrameOk(t, f, n <= impl.MaxBody)
	}
}

func TestBusesAtTheirLimits(t *testing.T) {
	checkBusOk(t, nil, true)
	checkBusOk(t, bus(), true)
	for n := range impl.MaxFrames + 4 {
		checkBusOk(t, busWith(n), n <= impl.MaxFrames)
	}
	for _, f := range rightFrames() {
		checkBusOk(t, bus(f), true)
		checkBusOk(t, bus(f, f), true)
	}
	for name, list := range wrongBuses() {
		if impl.BusOk(list) || wantBusOk(list) {
			t.Errorf("%s: it is BusOk", name)
		}
	}
	// Starts may be alike and Ends in any order; a Start alone must not fall.
	checkBusOk(t, bus(during(5, 9), during(5, 6), during(5, 20), during(6, 7)), true)
	checkBusOk(t, bus(during(5, 9), during(5, 6), during(4, 20)), false)
	checkBusOk(t, bus(during(0, far), during(0, 1), during(far-1, far)), true)
	checkBusOk(t, bus(during(0, far), during(1, 2), during(0, 1)), false)
}

// A bus with one frame wrong, or one Start below the one ahead, at every place.
func TestBusesWithOneWrongFrame(t *testing.T) {
	for n := 1; n <= impl.MaxFrames; n += 7 {
		for place := range n {
			list := busWith(n)
			list[place].End = list[place].Start
			checkBusOk(t, list, false)
			list = busWith(n)
			list[place].Start = 0
			checkBusOk(t, list, place == 0)
			list = busWith(n)
			list[place].Start, list[place].End = 1000, 1001
			checkBusOk(t, list, place == n-1)
		}
	}
}

// Of what is no bus nothing is told, whatever else is right.
func TestOfABusThatIsNoneNothingIsTold(t *testing.T) {
	plan := planOf(10, 2, sl(3, 5), sl(1, 3))
	numbers := []int{math.MinInt, -1, 0, 1, 5, 10, 12, 40, far - 1, far, far + 1, math.MaxInt}
	for name, list := range wrongBuses() {
		t.Run(name, func(t *testing.T) {
			checkClashes(t, list)
			checkStray(t, plan, list)
			for _, f := range append(rightFrames(), during(500, 501), impl.Frame{}) {
				checkBusPut(t, list, f, busAnswer{code: impl.BusBad})
			}
			for _, x := range numbers {
				checkHeard(t, list, x)
				checkOf(t, list, x)
				for _, y := range numbers {
					checkLoad(t, list, x, y, loaded(-1))
				}
			}
		})
	}
}

func TestOfNoFrames(t *testing.T) {
	for _, list := range [][]impl.Frame{nil, {}} {
		checkClashes(t, list)
		checkStray(t, planOf(10, 2, sl(0, 5)), list)
		checkHeard(t, list, far)
		checkOf(t, list, 0)
		checkLoad(t, list, 0, far, loaded(0, iv(0, far)))
		checkLoad(t, list, 7, 8, loaded(0, iv(7, 8)))
		checkLoad(t, list, 7, 7, loaded(0))
		for _, f := range rightFrames() {
			checkBusPut(t, list, f, busDone(f))
		}
		for _, f := range wrongFrames() {
			checkBusPut(t, list, f, busAnswer{code: impl.BusBad})
		}
	}
}

func TestPutBehindTheOthers(t *testing.T) {
	list := bus(fm(0, 0, 0, 10, 14), fm(1, 1, 0, 13, 18))
	for start, done := range map[int]bool{0: false, 9: false, 10: false, 12: false, 13: true, 14: true, 17: true, 18: true, 90: true, far - 1: true} {
		f := fm(2, 3, 4, start, far)
		want := busAnswer{code: impl.BusBad}
		if done {
			want = busDone(list[0], list[1], f)
		}
		checkBusPut(t, list, f, want)
	}
	// What is put in is told as it is, also one that is there already.
	f := fm(1, 1, 0, 13, 18)
	f.Body = "body"
	checkBusPut(t, list, f, busDone(list[0], list[1], f))
	checkBusPut(t, list, list[1], busDone(list[0], list[1], list[1]))
	for _, wrong := range wrongFrames() {
		checkBusPut(t, list, wrong, busAnswer{code: impl.BusBad})
	}
}

// What is wrong is told also of a bus that is full; only a frame that might stand there finds it full.
func TestPutIntoAFullBus(t *testing.T) {
	for n := impl.MaxFrames - 2; n <= impl.MaxFrames+1; n++ {
		list := busWith(n)
		last := list[n-1].Start
		for start, f := range map[int]impl.Frame{last - 1: during(last-1, last), last: during(last, last+1), last + 1: during(last+1, far)} {
			want := busDone(append(slices.Clone(list), f)...)
			switch {
			case n > impl.MaxFrames || start < last:
				want = busAnswer{code: impl.BusBad}
			case n == impl.MaxFrames:
				want = busAnswer{list, impl.BusFull}
			}
			checkBusPut(t, list, f, want)
		}
		for _, wrong := range wrongFrames() {
			wrong.Start += 1000
			wrong.End += 1000
			if !wantFrameOk(wrong) {
				checkBusPut(t, list, wrong, busAnswer{code: impl.BusBad})
			}
		}
	}
}

// Frames that touch have no time in common, and do not clash.
func TestClashesOfTwo(t *testing.T) {
	cases := []struct {
		f, g  impl.Frame
		clash bool
	}{
		{during(10, 14), during(13, 18), true},
		{during(10, 14), during(14, 18), false},
		{during(10, 14), during(15, 18), false},
		{during(10, 14), during(13, 14), true},
		{during(10, 14), during(10, 14), true},
		{during(10, 14), during(10, 11), true},
		{during(10, 11), during(10, 14), true},
		{during(10, 14), during(11, 12), true},
		{during(10, 14), during(11, 90), true},
		{during(10, 11), during(11, 12), false},
		{during(10, 11), during(10, 11), true},
		{during(0, 1), during(0, far), true},
		{during(0, 1), during(1, far), false},
		{during(0, far), during(far-1, far), true},
		{during(0, far-1), during(far-1, far), false},
		// Who sent them, and for what, counts for nothing.
		{fm(1, 2, 3, 10, 14), fm(1, 2, 3, 13, 15), true},
		{fm(1, 2, 3, 10, 14), fm(4, 5, 6, 13, 15), true},
		{fm(1, 2, 3, 10, 14), fm(1, 2, 3, 14, 15), false},
		{fm(1, 2, 3, 10, 14), fm(4, 5, 6, 14, 15), false},
	}
	for _, c := range cases {
		list := bus(c.f, c.g)
		if c.clash {
			checkClashes(t, list, clash(0, 1))
			checkHeard(t, list, far)
		} else {
			checkClashes(t, list)
			checkHeard(t, list, far, 0, 1)
		}
	}
}

// By A, and of one A by B; a frame does not clash with itself.
func TestClashesInTheirOrder(t *testing.T) {
	checkClashes(t, bus(during(10, 14)))
	// The first one lasts over all the others, of which the second and the third clash as well.
	long := bus(during(0, 100), during(1, 5), during(2, 3), during(5, 9), during(8, 10))
	checkClashes(t, long, clash(0, 1), clash(0, 2), clash(0, 3), clash(0, 4), clash(1, 2), clash(3, 4))
	// One between ends ahead of the next, and the one ahead of it does not.
	checkClashes(t, bus(during(0, 10), during(1, 2), during(5, 6)), clash(0, 1), clash(0, 2))
	checkClashes(t, bus(during(0, 4), during(4, 8), during(8, 9)))
	checkClashes(t, bus(during(0, 5), during(4, 9), during(8, 12), during(11, 13)), clash(0, 1), clash(1, 2), clash(2, 3))
	// Each two of as many as there may be.
	var all []impl.Clash
	for a := range impl.MaxFrames {
		for b := a + 1; b < impl.MaxFrames; b++ {
			all = append(all, clash(a, b))
		}
	}
	checkClashes(t, slices.Repeat(bus(during(4, 6)), impl.MaxFrames), all...)
}

// Of 10 .. 15, 17 .. 20, 22 .. 27, 29 .. 32 and so on, which are 0's and 1's by turns.
func TestStraysAtTheEndsOfSlots(t *testing.T) {
	p := planOf(10, 2, sl(0, 5), sl(1, 3))
	cases := []struct {
		f     impl.Frame
		stray bool
	}{
		{fm(0, 0, 0, 10, 15), false}, {fm(0, 0, 0, 10, 11), false}, {fm(0, 0, 0, 14, 15), false},
		{fm(0, 0, 0, 9, 15), true}, {fm(0, 0, 0, 10, 16), true}, {fm(0, 0, 0, 14, 16), true}, {fm(0, 0, 0, 15, 16), true}, {fm(0, 0, 0, 9, 10), true},
		{fm(1, 1, 0, 17, 20), false}, {fm(1, 1, 0, 16, 20), true}, {fm(1, 1, 0, 17, 21), true}, {fm(1, 1, 0, 15, 17), true}, {fm(1, 1, 0, 20, 22), true},
		{fm(0, 0, 1, 22, 27), false}, {fm(1, 1, 1, 29, 32), false}, {fm(1, 1, 1, 30, 31), false},
		// Over two slots, and over a whole round.
		{fm(0, 0, 0, 10, 20), true}, {fm(0, 0, 0, 10, 27), true},
		// Another owner, another slot, another round than the slot has in which it lies.
		{fm(1, 0, 0, 10, 15), true}, {fm(2, 0, 0, 10, 15), true}, {fm(0, 1, 0, 17, 20), true}, {fm(7, 1, 0, 17, 20), true},
		{fm(0, 1, 0, 10, 15), true}, {fm(0, 2, 0, 10, 15), true}, {fm(0, 15, 0, 10, 15), true}, {fm(1, 0, 0, 17, 20), true},
		{fm(0, 0, 1, 10, 15), true}, {fm(0, 0, far, 10, 15), true}, {fm(0, 0, 0, 22, 27), true}, {fm(0, 0, 2, 22, 27), true},
		// Ahead of Start there is no slot.
		{fm(0, 0, 0, 0, 5), true}, {fm(0, 0, 0, 0, 1), true}, {fm(0, 0, 0, 5, 10), true},
	}
	for _, c := range cases {
		if c.stray {
			checkStray(t, p, bus(c.f), 0)
		} else {
			checkStray(t, p, bus(c.f))
		}
	}
}

// Slots without a gap, of which some are one owner's; and the end of time.
func TestStraysBesideEachOther(t *testing.T) {
	p := planOf(10, 0, sl(0, 5), sl(0, 3), sl(1, 2))
	checkStray(t, p, bus(fm(0, 0, 0, 10, 15), fm(0, 0, 0, 14, 16), fm(0, 1, 0, 15, 18), fm(0, 0, 0, 15, 18), fm(1, 2, 0, 18, 20), fm(0, 1, 0, 18, 19), fm(0, 0, 1, 20, 25)), 1, 3, 5)
	late := planOf(far-8, 1, sl(4, 3), sl(5, 4))
	checkStray(t, late, bus(fm(4, 0, 0, far-8, far-5), fm(5, 1, 0, far-4, far)))
	checkStray(t, late, bus(fm(4, 0, 0, far-8, far-4), fm(5, 1, 0, far-4, far-1)), 0)
	// Its Occurrence would end behind MaxTime, so there is none.
	later := planOf(far-7, 1, sl(4, 3), sl(5, 4))
	checkStray(t, later, bus(fm(4, 0, 0, far-7, far-4), fm(5, 1, 0, far-3, far-1), fm(5, 1, 0, far-3, far)), 1, 2)
	checkStray(t, planOf(0, 0, sl(6, 1)), bus(fm(6, 0, 0, 0, 1), fm(6, 0, far-2, far-2, far-1), fm(6, 0, far-1, far-1, far), fm(6, 0, far, far-1, far)), 3)
}

// Of a plan that is none no frame is told to stray.
func TestStraysOfAPlanThatIsNone(t *testing.T) {
	list := bus(fm(0, 0, 0, 10, 14), fm(1, 1, 0, 13, 18), fm(2, 0, 0, 40, 44))
	for _, p := range wrongPlans() {
		checkStray(t, p, list)
		checkStray(t, p, nil)
		checkStray(t, p, busWith(impl.MaxFrames+1))
	}
	checkStray(t, planOf(40, 3, sl(2, 4)), list, 0, 1)
}

// What of a frame lies from from on up to below to.
func TestLoadAtTheEndsOfASpan(t *testing.T) {
	one := bus(during(10, 14))
	cases := []struct {
		from, to int
		want     loadAnswer
	}{
		{8, 20, loaded(4, iv(8, 10), iv(14, 20))},
		{10, 14, loaded(4)},
		{9, 15, loaded(4, iv(9, 10), iv(14, 15))},
		{11, 13, loaded(2)},
		{10, 15, loaded(4, iv(14, 15))},
		{9, 14, loaded(4, iv(9, 10))},
		{9, 11, loaded(1, iv(9, 10))},
		{13, 15, loaded(1, iv(14, 15))},
		{13, 14, loaded(1)},
		{10, 11, loaded(1)},
		{14, 15, loaded(0, iv(14, 15))},
		{9, 10, loaded(0, iv(9, 10))},
		{0, 10, loaded(0, iv(0, 10))},
		{14, far, loaded(0, iv(14, far))},
		{0, far, loaded(4, iv(0, 10), iv(14, far))},
		// No time at all.
		{0, 0, loaded(0)}, {9, 9, loaded(0)}, {10, 10, loaded(0)}, {12, 12, loaded(0)}, {14, 14, loaded(0)}, {far, far, loaded(0)},
	}
	for _, c := range cases {
		checkLoad(t, one, c.from, c.to, c.want)
	}
	ends := []int{math.MinInt, -far, -1, 0, 12, 13, far, far + 1, math.MaxInt}
	for _, from := range ends {
		for _, to := range ends {
			if !wantSpan(from, to) {
				checkLoad(t, one, from, to, loaded(-1))
				checkLoad(t, nil, from, to, loaded(-1))
			}
		}
	}
	checkLoad(t, bus(during(0, far)), 0, far, loaded(far))
	checkLoad(t, bus(during(0, 1), during(far-1, far)), 0, far, loaded(2, iv(1, far-1)))
}

// A time at which several frames are counts once; where one ends and the next begins nothing is quiet.
func TestLoadOfSeveral(t *testing.T) {
	cases := []struct {
		list []impl.Frame
		want loadAnswer
	}{
		{bus(during(10, 14), during(13, 18)), loaded(8, iv(5, 10), iv(18, 30))},
		{bus(during(10, 14), during(14, 18)), loaded(8, iv(5, 10), iv(18, 30))},
		{bus(during(10, 14), during(15, 18)), loaded(7, iv(5, 10), iv(14, 15), iv(18, 30))},
		{bus(during(10, 14), during(10, 14), during(10, 14)), loaded(4, iv(5, 10), iv(14, 30))},
		// The first one ends last.
		{bus(during(10, 20), during(11, 12), during(15, 16)), loaded(10, iv(5, 10), iv(20, 30))},
		{bus(during(10, 20), during(11, 12), during(20, 21)), loaded(11, iv(5, 10), iv(21, 30))},
		{bus(during(10, 20), during(11, 12), during(21, 22)), loaded(11, iv(5, 10), iv(20, 21), iv(22, 30))},
		// Over the ends of the span, beside it, and around it.
		{bus(during(0, 6), during(1, 7), during(28, 40), during(29, 31)), loaded(4, iv(7, 28))},
		{bus(during(0, 5), during(1, 2), during(30, 40)), loaded(0, iv(5, 30))},
		{bus(during(0, 40), during(10, 12)), loaded(25)},
		{bus(during(5, 30)), loaded(25)},
		{bus(during(6, 29)), loaded(23, iv(5, 6), iv(29, 30))},
		{bus(during(3, 5), during(30, 33)), loaded(0, iv(5, 30))},
		{bus(during(5, 6), during(29, 30)), loaded(2, iv(6, 29))},
		{bus(during(40, 50), during(41, 42)), loaded(0, iv(5, 30))},
	}
	for _, c := range cases {
		checkLoad(t, c.list, 5, 30, c.want)
	}
	// As many stretches as there can be: one more than frames.
	var list []impl.Frame
	var quiet []impl.Ival
	for i := range impl.MaxFrames {
		list = append(list, during(3*i+1, 3*i+2))
		quiet = append(quiet, iv(max(0, 3*i-1), 3*i+1))
	}
	quiet = append(quiet, iv(3*impl.MaxFrames-1, 1000))
	checkLoad(t, list, 0, 1000, loaded(impl.MaxFrames, quiet...))
}

func TestHeardWhereItIsOver(t *testing.T) {
	list := bus(during(10, 14), during(14, 15), during(20, 30), during(25, 26), during(30, 40), during(50, 60))
	cases := []struct {
		at   int
		want []int
	}{
		{math.MinInt, nil}, {-1, nil}, {0, nil}, {10, nil}, {13, nil},
		{14, []int{0}}, {15, []int{0, 1}}, {26, []int{0, 1}}, {30, []int{0, 1}},
		{39, []int{0, 1}}, {40, []int{0, 1, 4}}, {59, []int{0, 1, 4}}, {60, []int{0, 1, 4, 5}},
		{far, []int{0, 1, 4, 5}}, {far + 1, []int{0, 1, 4, 5}}, {math.MaxInt, []int{0, 1, 4, 5}},
	}
	for _, c := range cases {
		checkHeard(t, list, c.at, c.want...)
	}
	// One that is still under way is in common with it all the same.
	checkHeard(t, bus(during(10, 14), during(13, far)), 14)
	checkHeard(t, bus(during(0, far)), far-1)
	checkHeard(t, bus(during(0, far)), far, 0)
	// Two frames of one node are two.
	checkHeard(t, bus(fm(1, 2, 3, 10, 14), fm(1, 2, 3, 13, 15), fm(1, 2, 3, 15, 16)), 99, 2)
}

func TestFramesOfANode(t *testing.T) {
	list := bus(fm(0, 1, 0, 10, 14), fm(7, 0, 0, 13, 18), fm(0, 3, 0, 13, 14), fm(3, 0, 7, 20, 21), fm(0, 0, 0, 90, 91))
	checkOf(t, list, 0, 0, 2, 4)
	checkOf(t, list, 7, 1)
	checkOf(t, list, 3, 3)
	for _, node := range append([]int{1, 2, 4, 5, 6}, noNodes()...) {
		checkOf(t, list, node)
	}
	full := slices.Repeat(bus(fm(5, 0, 0, 1, 2)), impl.MaxFrames)
	all := make([]int, impl.MaxFrames)
	for i := range all {
		all[i] = i
	}
	checkOf(t, full, 5, all...)
}

// Each end of a frame, one below and one above it, and what is no time.
func timesOfBus(list []impl.Frame) []int {
	all := []int{math.MinInt, -1, 0, 1, far / 3, far - 1, far, far + 1, math.MaxInt}
	for i := range 6 {
		if len(list) > 0 {
			f := list[i*(len(list)-1)/5]
			all = append(all, f.Start-1, f.Start, f.Start+1, f.End-1, f.End, f.End+1)
		}
	}
	slices.Sort(all)
	return slices.Compact(all)
}

// Every function of the chapter against the document's words written again.
func checkBusFunctions(t *testing.T, list []impl.Frame, plans []impl.Plan) {
	t.Helper()
	checkBusOk(t, list, wantBusOk(list))
	checkClashes(t, list, wantClashes(list)...)
	for _, f := range list {
		checkFrameOk(t, f, wantFrameOk(f))
	}
	for _, p := range plans {
		checkStray(t, p, list, wantStray(p, list)...)
	}
	for node := -1; node <= impl.MaxNodes; node++ {
		checkOf(t, list, node, wantOf(list, node)...)
	}
	ends := timesOfBus(list)
	for _, from := range ends {
		checkHeard(t, list, from, wantHeard(list, from)...)
		// As a frame of one time, and of all that are left.
		for _, f := range bus(during(from, from+1), during(from, far)) {
			checkBusPut(t, list, f, wantBusPut(list, f))
		}
		for _, to := range ends {
			checkLoad(t, list, from, to, wantLoad(list, from, to))
		}
	}
}

// Every bus of up to three of these, right and wrong, in every order (P23).
func TestSmallBusesAsTheDocumentSays(t *testing.T) {
	pool := bus(during(0, 3), fm(0, 0, 0, 2, 4), fm(1, 1, 0, 3, 5), during(5, 6), fm(0, 0, 0, 0, far), fm(7, 15, far, far-1, far),
		fm(8, 0, 0, 1, 2), fm(0, 16, 0, 1, 2), fm(0, 0, far+1, 1, 2), during(4, 4), during(-1, 2), during(2, far+1), during(math.MinInt, math.MaxInt))
	plans := []impl.Plan{planOf(2, 0, sl(0, 2), sl(1, 2)), planOf(0, 1, sl(3, 3)), {}}
	right := 0
	for _, list := range listsOf(pool, 3) {
		checkBusFunctions(t, list, plans)
		if wantBusOk(list) {
			right++
		}
	}
	if right < 60 {
		t.Fatal("too few", right)
	}
}

func TestBusesAsTheDocumentSays(t *testing.T) {
	draw := &lottery{state: 15}
	for range 60 {
		checkBusFunctions(t, draw.smallBus(), []impl.Plan{draw.smallPlan()})
		checkBusFunctions(t, draw.anyBus(), []impl.Plan{draw.anyPlan()})
	}
	for n := range impl.MaxFrames + 3 {
		checkBusFunctions(t, busWith(n), []impl.Plan{planWith(1 + n%impl.MaxSlots)})
	}
	for _, list := range wrongBuses() {
		checkBusFunctions(t, list, []impl.Plan{planWith(3)})
	}
}
