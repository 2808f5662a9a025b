package tests

import (
	"math"
	"slices"
	"testing"

	"loop.example/g00072/impl"
)

const far = impl.MaxTime

func iv(lo, hi int) impl.Ival { return impl.Ival{Lo: lo, Hi: hi} }

func checkPair(t *testing.T, name string, a impl.Ival, ok bool, want pairAnswer) {
	t.Helper()
	if got := (pairAnswer{a, ok}); got != want {
		t.Fatalf("%s: got %v, want %v", name, got, want)
	}
}

func checkNum(t *testing.T, name string, n int, ok bool, want numAnswer) {
	t.Helper()
	if got := (numAnswer{n, ok}); got != want {
		t.Fatalf("%s: got %v, want %v", name, got, want)
	}
}

func TestIvalOkAtItsLimits(t *testing.T) {
	cases := []struct {
		a    impl.Ival
		want bool
	}{
		{iv(0, 0), true},
		{iv(-3, 7), true},
		{iv(far, far), true},
		{iv(-far, -far), true},
		{iv(-far, far), true},
		{iv(1, 0), false},
		{iv(-2, -3), false},
		{iv(-far-1, 0), false},
		{iv(0, far+1), false},
		{iv(far+1, far+1), false},
		{iv(-far-1, -far-1), false},
		{iv(far, -far), false},
		{iv(math.MinInt, math.MaxInt), false},
		{iv(math.MaxInt, math.MinInt), false},
	}
	for _, c := range cases {
		if got := impl.IvalOk(c.a); got != c.want {
			t.Errorf("IvalOk(%v) is %v", c.a, got)
		}
	}
}

func TestWideHoldsNearestMiddle(t *testing.T) {
	if n := impl.Wide(iv(-far, far)); n != 2*far {
		t.Error("Wide of the widest", n)
	}
	if n := impl.Wide(iv(3, 3)); n != 0 {
		t.Error("Wide of one number", n)
	}
	if n := impl.Wide(iv(4, 3)); n != -1 {
		t.Error("Wide of no interval", n)
	}
	if impl.Holds(iv(-2, 2), -3) || !impl.Holds(iv(-2, 2), -2) || !impl.Holds(iv(-2, 2), 2) || impl.Holds(iv(-2, 2), 3) {
		t.Error("Holds at its ends")
	}
	if impl.Holds(iv(0, far+1), 0) || impl.Holds(iv(math.MinInt, math.MaxInt), 0) {
		t.Error("Holds of no interval")
	}
	if impl.Holds(iv(-far, far), math.MinInt) || impl.Holds(iv(-far, far), math.MaxInt) {
		t.Error("Holds of the outermost numbers")
	}
	for _, c := range []struct{ at, want int }{{math.MinInt, -2}, {-3, -2}, {-2, -2}, {0, 0}, {4, 4}, {5, 4}, {math.MaxInt, 4}} {
		n, ok := impl.Nearest(iv(-2, 4), c.at)
		checkNum(t, "Nearest", n, ok, numAnswer{c.want, true})
	}
	n, ok := impl.Nearest(iv(4, 2), 3)
	checkNum(t, "Nearest of no interval", n, ok, numAnswer{})
	for _, c := range []struct {
		a    impl.Ival
		want int
	}{{iv(0, 4), 2}, {iv(0, 5), 2}, {iv(-5, 0), -3}, {iv(-4, 0), -2}, {iv(-1, 0), -1}, {iv(-2, 1), -1}, {iv(-far, 1-far), -far}, {iv(-far, far), 0}, {iv(far, far), far}} {
		n, ok := impl.Middle(c.a)
		checkNum(t, "Middle", n, ok, numAnswer{c.want, true})
	}
	n, ok = impl.Middle(iv(1, 0))
	checkNum(t, "Middle of no interval", n, ok, numAnswer{})
}

func TestShiftAtItsLimits(t *testing.T) {
	cases := []struct {
		a    impl.Ival
		by   int
		want pairAnswer
	}{
		{iv(2, 5), 3, pairAnswer{iv(5, 8), true}},
		{iv(2, 5), -9, pairAnswer{iv(-7, -4), true}},
		{iv(0, 4), far - 4, pairAnswer{iv(far-4, far), true}},
		{iv(0, 4), far - 3, pairAnswer{}},
		{iv(0, 4), -far, pairAnswer{iv(-far, 4-far), true}},
		{iv(0, 4), -far - 1, pairAnswer{}},
		{iv(-far, -far), 2 * far, pairAnswer{iv(far, far), true}},
		{iv(far, far), -2 * far, pairAnswer{iv(-far, -far), true}},
		{iv(-far, -far), 2*far + 1, pairAnswer{}},
		{iv(far, far), -2*far - 1, pairAnswer{}},
		{iv(far, far), math.MaxInt, pairAnswer{}},
		{iv(-far, -far), math.MinInt, pairAnswer{}},
		{iv(5, 2), 1, pairAnswer{}},
		{iv(-far-1, 0), 1, pairAnswer{}},
		{iv(0, far+1), -1, pairAnswer{}},
	}
	for _, c := range cases {
		a, ok := impl.Shift(c.a, c.by)
		checkPair(t, "Shift", a, ok, c.want)
	}
}

func TestSpreadAtItsLimits(t *testing.T) {
	cases := []struct {
		a         impl.Ival
		low, high int
		want      pairAnswer
	}{
		{iv(2, 5), 3, 4, pairAnswer{iv(-1, 9), true}},
		{iv(2, 5), 0, 0, pairAnswer{iv(2, 5), true}},
		{iv(2, 5), -1, 0, pairAnswer{}},
		{iv(2, 5), 0, -1, pairAnswer{}},
		{iv(far, far), 2 * far, 0, pairAnswer{iv(-far, far), true}},
		{iv(far, far), 2*far + 1, 0, pairAnswer{}},
		{iv(-far, -far), 0, 2 * far, pairAnswer{iv(-far, far), true}},
		{iv(-far, -far), 0, 2*far + 1, pairAnswer{}},
		{iv(0, 0), far, far, pairAnswer{iv(-far, far), true}},
		{iv(0, 0), far + 1, far, pairAnswer{}},
		{iv(0, 0), far, far + 1, pairAnswer{}},
		{iv(0, 0), math.MaxInt, 0, pairAnswer{}},
		{iv(0, 0), 0, math.MaxInt, pairAnswer{}},
		{iv(0, 0), math.MinInt, 0, pairAnswer{}},
		{iv(1, 0), 1, 1, pairAnswer{}},
		{iv(0, far+1), 0, 0, pairAnswer{}},
	}
	for _, c := range cases {
		a, ok := impl.Spread(c.a, c.low, c.high)
		checkPair(t, "Spread", a, ok, c.want)
	}
}

func TestMeetJoinApartOfTwo(t *testing.T) {
	cases := []struct {
		a, b       impl.Ival
		meet, join pairAnswer
		apart      int
	}{
		{iv(0, 5), iv(3, 9), pairAnswer{iv(3, 5), true}, pairAnswer{iv(0, 9), true}, 0},
		{iv(0, 3), iv(3, 9), pairAnswer{iv(3, 3), true}, pairAnswer{iv(0, 9), true}, 0},
		{iv(0, 2), iv(3, 9), pairAnswer{}, pairAnswer{iv(0, 9), true}, 1},
		{iv(4, 6), iv(-9, -3), pairAnswer{}, pairAnswer{iv(-9, 6), true}, 7},
		{iv(-9, 9), iv(-1, 1), pairAnswer{iv(-1, 1), true}, pairAnswer{iv(-9, 9), true}, 0},
		{iv(-far, -far), iv(far, far), pairAnswer{}, pairAnswer{iv(-far, far), true}, 2 * far},
		{iv(3, 1), iv(0, 9), pairAnswer{}, pairAnswer{}, -1},
		{iv(0, 9), iv(0, far+1), pairAnswer{}, pairAnswer{}, -1},
		{iv(-far-1, 0), iv(0, 9), pairAnswer{}, pairAnswer{}, -1},
		{iv(3, 1), iv(3, 1), pairAnswer{}, pairAnswer{}, -1},
	}
	for _, c := range cases {
		a, ok := impl.Meet(c.a, c.b)
		checkPair(t, "Meet", a, ok, c.meet)
		a, ok = impl.Meet(c.b, c.a)
		checkPair(t, "Meet turned round", a, ok, c.meet)
		a, ok = impl.Join(c.a, c.b)
		checkPair(t, "Join", a, ok, c.join)
		a, ok = impl.Join(c.b, c.a)
		checkPair(t, "Join turned round", a, ok, c.join)
		if n, m := impl.Apart(c.a, c.b), impl.Apart(c.b, c.a); n != c.apart || m != c.apart {
			t.Errorf("Apart of %v and %v: %d, %d", c.a, c.b, n, m)
		}
	}
}

func TestPlusAndLessAtTheirLimits(t *testing.T) {
	cases := []struct {
		a, b       impl.Ival
		plus, less pairAnswer
	}{
		{iv(5, 7), iv(1, 2), pairAnswer{iv(6, 9), true}, pairAnswer{iv(3, 6), true}},
		{iv(-5, -4), iv(-2, 3), pairAnswer{iv(-7, -1), true}, pairAnswer{iv(-8, -2), true}},
		{iv(0, far), iv(0, 0), pairAnswer{iv(0, far), true}, pairAnswer{iv(0, far), true}},
		{iv(0, far), iv(0, 1), pairAnswer{}, pairAnswer{iv(-1, far), true}},
		{iv(0, far), iv(-1, 0), pairAnswer{iv(-1, far), true}, pairAnswer{}},
		{iv(-far, 0), iv(-1, 0), pairAnswer{}, pairAnswer{iv(-far, 1), true}},
		{iv(-far, 0), iv(0, 1), pairAnswer{iv(-far, 1), true}, pairAnswer{}},
		{iv(far, far), iv(-far, -far), pairAnswer{iv(0, 0), true}, pairAnswer{}},
		{iv(far, far), iv(far, far), pairAnswer{}, pairAnswer{iv(0, 0), true}},
		{iv(-far, far), iv(-far, far), pairAnswer{}, pairAnswer{}},
		{iv(2, 1), iv(0, 0), pairAnswer{}, pairAnswer{}},
		{iv(0, 0), iv(2, 1), pairAnswer{}, pairAnswer{}},
		{iv(-far-1, 0), iv(1, 1), pairAnswer{}, pairAnswer{}},
		{iv(0, far+1), iv(-1, -1), pairAnswer{}, pairAnswer{}},
		{iv(math.MinInt, math.MaxInt), iv(math.MinInt, math.MaxInt), pairAnswer{}, pairAnswer{}},
	}
	for _, c := range cases {
		a, ok := impl.PlusIval(c.a, c.b)
		checkPair(t, "PlusIval", a, ok, c.plus)
		a, ok = impl.LessIval(c.a, c.b)
		checkPair(t, "LessIval", a, ok, c.less)
	}
}

// P1, number by number, over every two small intervals: what holds their sums and differences also holds no others.
func TestMeetAndSumsNumberByNumber(t *testing.T) {
	numbers := smallNumbers()
	for _, a := range ivalsOf(numbers) {
		for _, b := range ivalsOf(numbers) {
			meet, met := impl.Meet(a, b)
			some := false
			for _, n := range numbers {
				both := impl.Holds(a, n) && impl.Holds(b, n)
				some = some || both
				if both != (met && impl.Holds(meet, n)) {
					t.Fatalf("%d in the Meet %v, %v of %v and %v", n, meet, met, a, b)
				}
			}
			if some != met {
				t.Fatalf("Meet of %v and %v: %v", a, b, met)
			}
			checkSums(t, numbers, a, b)
		}
	}
}

func checkSums(t *testing.T, numbers []int, a, b impl.Ival) {
	t.Helper()
	sum, summed := impl.PlusIval(a, b)
	diff, differs := impl.LessIval(a, b)
	right := impl.IvalOk(a) && impl.IvalOk(b)
	if summed != right || differs != right {
		t.Fatalf("sum and difference of %v and %v: %v, %v", a, b, summed, differs)
	}
	sums, diffs := map[int]int{}, map[int]int{}
	for _, x := range numbers {
		for _, y := range numbers {
			if impl.Holds(a, x) && impl.Holds(b, y) {
				sums[x+y]++
				diffs[x-y]++
			}
		}
	}
	for n := -11; n <= 11; n++ {
		if (sums[n] > 0) != (summed && impl.Holds(sum, n)) || (diffs[n] > 0) != (differs && impl.Holds(diff, n)) {
			t.Fatalf("%d in %v or %v, of %v and %v", n, sum, diff, a, b)
		}
	}
}

func checkOne(t *testing.T, a impl.Ival, numbers []int) {
	t.Helper()
	if got, want := impl.IvalOk(a), bigIvalOf(a).ok(); got != want {
		t.Fatalf("IvalOk(%v) is %v", a, got)
	}
	if got, want := impl.Wide(a), wantWide(a); got != want {
		t.Fatalf("Wide(%v): got %d, want %d", a, got, want)
	}
	n, ok := impl.Middle(a)
	checkNum(t, "Middle", n, ok, wantMiddle(a))
	for _, x := range numbers {
		if got, want := impl.Holds(a, x), wantHolds(a, x); got != want {
			t.Fatalf("Holds(%v, %d) is %v", a, x, got)
		}
		n, ok := impl.Nearest(a, x)
		checkNum(t, "Nearest", n, ok, wantNearest(a, x))
		got, ok := impl.Shift(a, x)
		checkPair(t, "Shift", got, ok, wantShift(a, x))
		for _, y := range numbers {
			got, ok := impl.Spread(a, x, y)
			checkPair(t, "Spread", got, ok, wantSpread(a, x, y))
		}
	}
}

func checkTwo(t *testing.T, a, b impl.Ival) {
	t.Helper()
	got, ok := impl.Meet(a, b)
	checkPair(t, "Meet", got, ok, wantMeet(a, b))
	got, ok = impl.Join(a, b)
	checkPair(t, "Join", got, ok, wantJoin(a, b))
	got, ok = impl.PlusIval(a, b)
	checkPair(t, "PlusIval", got, ok, wantPlus(a, b))
	got, ok = impl.LessIval(a, b)
	checkPair(t, "LessIval", got, ok, wantLess(a, b))
	if got, want := impl.Within(a, b), wantWithin(a, b); got != want {
		t.Fatalf("Within(%v, %v) is %v", a, b, got)
	}
	if got, want := impl.Apart(a, b), wantApart(a, b); got != want {
		t.Fatalf("Apart(%v, %v): got %d, want %d", a, b, got, want)
	}
	list := []impl.Ival{a, b}
	got, ok = impl.MeetAll(list)
	checkPair(t, "MeetAll of two", got, ok, wantMeet(a, b))
	got, ok = impl.JoinAll(list)
	checkPair(t, "JoinAll of two", got, ok, wantJoin(a, b))
}

// Every function of the chapter at every mixture of right and wrong arguments around its limits (P1 and P23).
func TestIvalsAgainstTheModel(t *testing.T) {
	for _, numbers := range [][]int{smallNumbers(), edgeNumbers()} {
		ivals := ivalsOf(numbers)
		for _, a := range ivals {
			checkOne(t, a, numbers)
			for _, b := range ivals {
				checkTwo(t, a, b)
			}
		}
	}
}

func TestAllOfNoneAndOne(t *testing.T) {
	for _, all := range []func([]impl.Ival) (impl.Ival, bool){impl.MeetAll, impl.JoinAll} {
		a, ok := all(nil)
		checkPair(t, "of nil", a, ok, pairAnswer{})
		a, ok = all([]impl.Ival{})
		checkPair(t, "of none", a, ok, pairAnswer{})
		for _, one := range append(ivalsOf(edgeNumbers()), ivalsOf(smallNumbers())...) {
			a, ok := all([]impl.Ival{one})
			checkPair(t, "of one", a, ok, answerOf(bigIvalOf(one), true))
		}
	}
}

// Nested intervals: each one more narrows the Meet and leaves the Join.
func nested(n int) []impl.Ival {
	list := make([]impl.Ival, n)
	for i := range list {
		list[i] = iv(-100+i, 200-i)
	}
	return list
}

func TestAllAtMaxIvals(t *testing.T) {
	full := nested(impl.MaxIvals)
	a, ok := impl.MeetAll(full)
	checkPair(t, "MeetAll of MaxIvals", a, ok, pairAnswer{iv(-37, 137), true})
	a, ok = impl.JoinAll(full)
	checkPair(t, "JoinAll of MaxIvals", a, ok, pairAnswer{iv(-100, 200), true})
	for _, n := range []int{impl.MaxIvals + 1, 5 * impl.MaxIvals} {
		a, ok = impl.MeetAll(nested(n))
		checkPair(t, "MeetAll of too many", a, ok, pairAnswer{})
		a, ok = impl.JoinAll(nested(n))
		checkPair(t, "JoinAll of too many", a, ok, pairAnswer{})
	}
}

func TestAllWithOneWrongAtAnyPlace(t *testing.T) {
	for _, wrong := range []impl.Ival{iv(1, 0), iv(-far-1, 0), iv(0, far+1), iv(math.MinInt, math.MaxInt)} {
		for _, n := range []int{1, 2, 3, impl.MaxIvals} {
			for i := range n {
				list := nested(n)
				list[i] = wrong
				a, ok := impl.MeetAll(list)
				checkPair(t, "MeetAll with a wrong one", a, ok, pairAnswer{})
				a, ok = impl.JoinAll(list)
				checkPair(t, "JoinAll with a wrong one", a, ok, pairAnswer{})
			}
		}
	}
}

// Two are apart, wherever they stand; the zero value beside a Meet's false is an interval too, and must not be met with what follows.
func TestMeetAllWithNothingInCommon(t *testing.T) {
	for i := range 3 {
		list := []impl.Ival{iv(1, 4), iv(6, 9), iv(-5, 5)}
		list[0], list[i] = list[i], list[0]
		a, ok := impl.MeetAll(list)
		checkPair(t, "MeetAll of what has nothing in common", a, ok, pairAnswer{})
		a, ok = impl.JoinAll(list)
		checkPair(t, "JoinAll of what has nothing in common", a, ok, pairAnswer{iv(-5, 9), true})
	}
	a, ok := impl.MeetAll([]impl.Ival{iv(1, 4), iv(6, 9), iv(0, 0)})
	checkPair(t, "MeetAll with 0 behind a false", a, ok, pairAnswer{})
	a, ok = impl.MeetAll([]impl.Ival{iv(0, 4), iv(4, 9), iv(-3, 4)})
	checkPair(t, "MeetAll in one number", a, ok, pairAnswer{iv(4, 4), true})
}

func foldWith(list []impl.Ival, two func(impl.Ival, impl.Ival) (impl.Ival, bool)) pairAnswer {
	all := pairAnswer{list[0], impl.IvalOk(list[0])}
	for _, a := range list[1:] {
		if !all.ok {
			return pairAnswer{}
		}
		all.a, all.ok = two(all.a, a)
	}
	return answerOf(bigIvalOf(all.a), all.ok)
}

// P1: what MeetAll and JoinAll tell is what Meet and Join come to, in whatever order they are taken.
func TestAllIsTwoByTwo(t *testing.T) {
	ivals := ivalsOf([]int{-3, -1, 0, 2, 3})
	for _, a := range ivals {
		for _, b := range ivals {
			for _, c := range ivals {
				list, turned := []impl.Ival{a, b, c}, []impl.Ival{c, a, b}
				got, ok := impl.MeetAll(list)
				checkPair(t, "MeetAll", got, ok, foldWith(list, impl.Meet))
				checkPair(t, "MeetAll turned", got, ok, foldWith(turned, impl.Meet))
				got, ok = impl.JoinAll(list)
				checkPair(t, "JoinAll", got, ok, foldWith(list, impl.Join))
				checkPair(t, "JoinAll turned", got, ok, foldWith(turned, impl.Join))
			}
		}
	}
}

// P23: neither the list nor the room behind it is written into.
func TestAllWritesIntoNothing(t *testing.T) {
	room := append(nested(10), iv(7, -7), iv(8, -8))
	before := slices.Clone(room)
	for n := range len(room) + 1 {
		impl.MeetAll(room[:n])
		impl.JoinAll(room[:n])
		if !slices.Equal(room, before) {
			t.Fatalf("written into a list of %d or behind it", n)
		}
	}
}

func TestWithinItsOwnMeetAndJoin(t *testing.T) {
	ivals := ivalsOf(smallNumbers())
	for _, a := range ivals {
		if got := impl.Within(a, a); got != impl.IvalOk(a) {
			t.Fatalf("%v within itself: %v", a, got)
		}
		for _, b := range ivals {
			if m, ok := impl.Meet(a, b); ok && (!impl.Within(m, a) || !impl.Within(m, b)) {
				t.Fatalf("the Meet %v is not within %v and %v", m, a, b)
			}
			if j, ok := impl.Join(a, b); ok && (!impl.Within(a, j) || !impl.Within(b, j)) {
				t.Fatalf("%v and %v are not within the Join %v", a, b, j)
			}
		}
	}
}
