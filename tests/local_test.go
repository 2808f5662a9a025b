package tests

import (
	"math"
	"testing"

	"loop.example/g00072/impl"
)

func TestLocalOkAtItsLimits(t *testing.T) {
	cases := []struct {
		l    impl.Local
		want bool
	}{
		{loc(3, 7, 5), true},
		{loc(0, 0, 0), true},
		{loc(-far, far, far), true},
		{loc(far, far, 0), true},
		{loc(-far, -far, 0), true},
		{loc(-far-1, 0, 0), false},
		{loc(0, far+1, 0), false},
		{loc(far+1, far+1, 0), false},
		{loc(-far-1, -far-1, 0), false},
		{loc(1, 0, 0), false},
		{loc(math.MinInt, math.MaxInt, 0), false},
		{loc(math.MaxInt, math.MinInt, 0), false},
		{loc(3, 7, -1), false},
		{loc(3, 7, far), true},
		{loc(3, 7, far+1), false},
		{loc(3, 7, math.MinInt), false},
		{loc(3, 7, math.MaxInt), false},
		{impl.Local{}, true},
		{impl.Local{Bound: iv(0, 1)}, false},
		{impl.Local{Bound: iv(-1, 0)}, false},
		{impl.Local{Bound: iv(1, 0)}, false},
		{impl.Local{Bound: iv(3, 7)}, false},
		{impl.Local{At: 1}, false},
		{impl.Local{At: -1}, false},
		{impl.Local{Bound: iv(3, 7), At: 5}, false},
		{impl.Local{Bound: iv(0, math.MaxInt)}, false},
		{impl.Local{Bound: iv(math.MinInt, 0)}, false},
		{impl.Local{At: math.MinInt}, false},
		{impl.Local{At: math.MaxInt}, false},
	}
	for _, c := range cases {
		if got := impl.LocalOk(c.l); got != c.want {
			t.Errorf("LocalOk(%v) is %v", c.l, got)
		}
	}
}

func checkCarry(t *testing.T, l impl.Local, d impl.Drift, count int, want carryAnswer) {
	t.Helper()
	a, code := impl.CarryOn(l, d, count)
	if got := (carryAnswer{a, code}); got != want {
		t.Fatalf("CarryOn(%v, %v, %d): got %v, want %v", l, d, count, got, want)
	}
}

func checkRebase(t *testing.T, l impl.Local, d impl.Drift, count int, want localAnswer) {
	t.Helper()
	now, code := impl.Rebase(l, d, count)
	if got := (localAnswer{now, code}); got != want {
		t.Fatalf("Rebase(%v, %v, %d): got %v, want %v", l, d, count, got, want)
	}
}

func checkNarrow(t *testing.T, l impl.Local, d impl.Drift, count int, with impl.Ival, want localAnswer) {
	t.Helper()
	now, code := impl.Narrow(l, d, count, with)
	if got := (localAnswer{now, code}); got != want {
		t.Fatalf("Narrow(%v, %v, %d, %v): got %v, want %v", l, d, count, with, got, want)
	}
}

func checkWidth(t *testing.T, l impl.Local, d impl.Drift, count int, want int) {
	t.Helper()
	if got := impl.WidthAt(l, d, count); got != want {
		t.Fatalf("WidthAt(%v, %v, %d) is %d, want %d", l, d, count, got, want)
	}
}

func checkKnownFor(t *testing.T, l impl.Local, d impl.Drift, most int, want numAnswer) {
	t.Helper()
	n, ok := impl.KnownFor(l, d, most)
	if got := (numAnswer{n, ok}); got != want {
		t.Fatalf("KnownFor(%v, %v, %d): got %v, want %v", l, d, most, got, want)
	}
}

func well(lo, hi int) carryAnswer { return carryAnswer{iv(lo, hi), impl.LocWell} }

func carryCode(code int) carryAnswer { return carryAnswer{code: code} }

type carryCase struct {
	l     impl.Local
	d     impl.Drift
	count int
	want  carryAnswer
}

// CarryOn says all that Rebase and WidthAt tell of one count, so each case is asked of all three.
func checkCarryCases(t *testing.T, cases []carryCase) {
	t.Helper()
	for _, c := range cases {
		checkCarry(t, c.l, c.d, c.count, c.want)
		if c.want.code != impl.LocWell {
			checkRebase(t, c.l, c.d, c.count, localAnswer{code: c.want.code})
			checkWidth(t, c.l, c.d, c.count, -1)
			continue
		}
		checkRebase(t, c.l, c.d, c.count, localAnswer{loc(c.want.a.Lo, c.want.a.Hi, c.count), impl.LocWell})
		checkWidth(t, c.l, c.d, c.count, c.want.a.Hi-c.want.a.Lo)
	}
}

func TestCarriedOn(t *testing.T) {
	d, still, half := dr(1, 4), dr(0, 1), dr(1, 2)
	checkCarryCases(t, []carryCase{
		{loc(10, 12, 100), d, 110, well(18, 25)},
		{loc(10, 12, 100), d, 101, well(11, 13)},
		{loc(10, 12, 100), d, 100, well(10, 12)},
		{loc(-9, -4, 0), d, 10, well(-1, 9)},
		{loc(10, 12, 100), still, 110, well(20, 22)},
		{loc(0, 0, 0), half, 1, well(1, 2)},
		{loc(0, 0, 0), half, 3, well(2, 6)},
		{loc(-far, far, 5), half, 5, well(-far, far)},
		// At and count at the ends of what a count is.
		{loc(10, 12, 0), d, 0, well(10, 12)},
		{loc(10, 12, far), d, far, well(10, 12)},
		{loc(0, 0, 0), still, far, well(far, far)},
		{loc(-far, -far, 0), still, far, well(0, 0)},
		{loc(-far, 0, 0), still, far, well(0, far)},
		{loc(10, 12, far-1), half, far, well(11, 14)},
		{loc(10, 12, 0), dr(0, impl.MaxDen), 7, well(17, 19)},
		{loc(10, 12, 0), dr(impl.MaxDen/2, impl.MaxDen), 3, well(12, 18)},
	})
}

func TestCountsThatGoBack(t *testing.T) {
	d := dr(1, 4)
	checkCarryCases(t, []carryCase{
		{loc(10, 12, 100), d, 99, carryCode(impl.LocBack)},
		{loc(10, 12, 100), d, 100, well(10, 12)},
		{loc(10, 12, 100), d, 101, well(11, 13)},
		{loc(10, 12, 100), d, 0, carryCode(impl.LocBack)},
		{loc(10, 12, 1), d, 0, carryCode(impl.LocBack)},
		{loc(10, 12, far), d, far - 1, carryCode(impl.LocBack)},
		{loc(10, 12, far), d, 0, carryCode(impl.LocBack)},
		{loc(far, far, 100), d, 99, carryCode(impl.LocBack)},
	})
}

func TestBoundsThatRunOver(t *testing.T) {
	d, still, half := dr(1, 4), dr(0, 1), dr(1, 2)
	checkCarryCases(t, []carryCase{
		// The sum is just still an interval, and one above.
		{loc(10, far-13, 100), d, 110, well(18, far)},
		{loc(10, far-12, 100), d, 110, carryCode(impl.LocOver)},
		{loc(far-13, far-13, 100), d, 110, well(far-5, far)},
		{loc(far-12, far-12, 100), d, 110, carryCode(impl.LocOver)},
		{loc(0, 1, 0), still, far, carryCode(impl.LocOver)},
		{loc(0, 0, 0), still, far, well(far, far)},
		{loc(far, far, 7), d, 7, well(far, far)},
		{loc(far, far, 7), d, 8, carryCode(impl.LocOver)},
		{loc(-far, far, 7), still, 8, carryCode(impl.LocOver)},
		// Between is just still told, and no more, though the sum would be an interval.
		{loc(0, 0, 0), half, far / 2, well(333333333334, far)},
		{loc(-far, -far, 0), half, far / 2, well(333333333334-far, 0)},
		{loc(-far, -far, 0), half, far/2 + 1, carryCode(impl.LocOver)},
		{loc(-far, -far, 0), half, far, carryCode(impl.LocOver)},
		{loc(-far, -far, 0), dr(1, impl.MaxDen), far, carryCode(impl.LocOver)},
		{loc(-far, -far, 1), d, 750000000001, well(600000000000-far, 0)},
		{loc(-far, -far, 1), d, 750000000002, carryCode(impl.LocOver)},
	})
}

func TestNoCarryingOfWhatIsWrong(t *testing.T) {
	d := dr(1, 4)
	bad := carryCode(impl.LocBad)
	cases := []carryCase{
		{loc(12, 10, 100), d, 110, bad},
		{loc(10, far+1, 100), d, 110, bad},
		{loc(-far-1, 10, 100), d, 110, bad},
		{loc(10, 12, -1), d, 110, bad},
		{loc(10, 12, far+1), d, far, bad},
		{loc(10, 12, 100), d, -1, bad},
		{loc(10, 12, 100), d, far + 1, bad},
		{loc(10, 12, 100), d, math.MinInt, bad},
		{loc(10, 12, 100), d, math.MaxInt, bad},
		{loc(10, 12, math.MinInt), d, math.MaxInt, bad},
		{loc(10, 12, math.MaxInt), d, math.MinInt, bad},
		{loc(math.MinInt, math.MinInt, 0), d, 0, bad},
		{loc(math.MaxInt, math.MaxInt, 0), d, 1, bad},
		{impl.Local{Bound: iv(10, 12)}, d, 110, bad},
		{impl.Local{At: 100}, d, 110, bad},
		{impl.Local{}, d, 110, carryCode(impl.LocUnknown)},
		{impl.Local{}, d, 0, carryCode(impl.LocUnknown)},
		{impl.Local{}, d, far, carryCode(impl.LocUnknown)},
	}
	for _, wrong := range []impl.Drift{dr(0, 0), dr(0, -1), dr(-1, 4), dr(3, 4), dr(1, 1), dr(0, impl.MaxDen+1), dr(impl.MaxDen/2+1, impl.MaxDen), dr(math.MaxInt, 4), dr(1, math.MaxInt), dr(math.MinInt, math.MinInt)} {
		cases = append(cases, carryCase{loc(10, 12, 100), wrong, 100, bad}, carryCase{loc(10, 12, 100), wrong, 110, bad})
	}
	checkCarryCases(t, cases)
}

// Where two codes apply, the one that is named first counts.
func TestCodesOfCarryingInTheirOrder(t *testing.T) {
	d, wrong := dr(1, 4), dr(3, 4)
	checkCarryCases(t, []carryCase{
		{impl.Local{}, wrong, 5, carryCode(impl.LocBad)},
		{impl.Local{}, d, -1, carryCode(impl.LocBad)},
		{impl.Local{}, d, far + 1, carryCode(impl.LocBad)},
		{impl.Local{At: 9}, d, 5, carryCode(impl.LocBad)},
		{loc(10, 12, 100), wrong, 99, carryCode(impl.LocBad)},
		{loc(12, 10, 100), d, 99, carryCode(impl.LocBad)},
		{loc(10, 12, 100), d, -1, carryCode(impl.LocBad)},
		{loc(10, 12, far+1), d, 99, carryCode(impl.LocBad)},
		{loc(far, far, 100), wrong, 110, carryCode(impl.LocBad)},
		{loc(far, far+1, 100), d, 110, carryCode(impl.LocBad)},
		{loc(far, far, 100), d, far + 1, carryCode(impl.LocBad)},
		{loc(far, far, far), d, 0, carryCode(impl.LocBack)},
	})
}

func TestLearnAtItsLimits(t *testing.T) {
	cases := []struct {
		bound impl.Ival
		count int
		want  learnAnswer
	}{
		{iv(10, 12), 100, learnAnswer{loc(10, 12, 100), true}},
		{iv(0, 0), 0, learnAnswer{loc(0, 0, 0), true}},
		{iv(-far, far), far, learnAnswer{loc(-far, far, far), true}},
		{iv(-far, -far), 0, learnAnswer{loc(-far, -far, 0), true}},
		{iv(far, far), 0, learnAnswer{loc(far, far, 0), true}},
		{iv(-far-1, far), 0, learnAnswer{}},
		{iv(-far, far+1), 0, learnAnswer{}},
		{iv(12, 10), 100, learnAnswer{}},
		{iv(10, 12), -1, learnAnswer{}},
		{iv(10, 12), far + 1, learnAnswer{}},
		{iv(0, 0), -1, learnAnswer{}},
		{iv(10, 12), math.MinInt, learnAnswer{}},
		{iv(10, 12), math.MaxInt, learnAnswer{}},
		{iv(math.MinInt, math.MaxInt), 0, learnAnswer{}},
		{iv(math.MaxInt, math.MinInt), 0, learnAnswer{}},
	}
	for _, c := range cases {
		checkLearn(t, c.bound, c.count, c.want)
	}
}

func checkLearn(t *testing.T, bound impl.Ival, count int, want learnAnswer) {
	t.Helper()
	l, ok := impl.Learn(bound, count)
	if got := (learnAnswer{l, ok}); got != want {
		t.Fatalf("Learn(%v, %d): got %v, want %v", bound, count, got, want)
	}
}

func narrowed(lo, hi, at int) localAnswer { return localAnswer{loc(lo, hi, at), impl.LocWell} }

func narrowCode(code int) localAnswer { return localAnswer{code: code} }

// What is carried on to 110 goes from 18 to 25.
func TestNarrowAtItsLimits(t *testing.T) {
	l, d := loc(10, 12, 100), dr(1, 4)
	cases := []struct {
		l     impl.Local
		count int
		with  impl.Ival
		want  localAnswer
	}{
		{l, 110, iv(20, 40), narrowed(20, 25, 110)},
		{l, 110, iv(0, 20), narrowed(18, 20, 110)},
		{l, 110, iv(20, 22), narrowed(20, 22, 110)},
		{l, 110, iv(0, 40), narrowed(18, 25, 110)},
		{l, 110, iv(-far, far), narrowed(18, 25, 110)},
		{l, 110, iv(18, 25), narrowed(18, 25, 110)},
		// In one number, and missed by one.
		{l, 110, iv(25, 40), narrowed(25, 25, 110)},
		{l, 110, iv(26, 40), narrowCode(impl.LocEmpty)},
		{l, 110, iv(0, 18), narrowed(18, 18, 110)},
		{l, 110, iv(0, 17), narrowCode(impl.LocEmpty)},
		{l, 110, iv(21, 21), narrowed(21, 21, 110)},
		{l, 110, iv(far, far), narrowCode(impl.LocEmpty)},
		{l, 110, iv(-far, -far), narrowCode(impl.LocEmpty)},
		{l, 100, iv(12, 13), narrowed(12, 12, 100)},
		{l, 100, iv(13, 13), narrowCode(impl.LocEmpty)},
		{l, 99, iv(10, 12), narrowCode(impl.LocBack)},
		{loc(far, far, 7), 7, iv(0, far), narrowed(far, far, 7)},
		{loc(far, far, 7), 8, iv(0, far), narrowCode(impl.LocOver)},
		{impl.Local{}, 110, iv(20, 40), narrowed(20, 40, 110)},
		{impl.Local{}, 0, iv(-far, far), narrowed(-far, far, 0)},
		{impl.Local{}, far, iv(far, far), narrowed(far, far, far)},
		{impl.Local{}, far + 1, iv(20, 40), narrowCode(impl.LocBad)},
		{impl.Local{}, -1, iv(20, 40), narrowCode(impl.LocBad)},
		{impl.Local{}, 110, iv(40, 20), narrowCode(impl.LocBad)},
		{impl.Local{}, 110, iv(20, far+1), narrowCode(impl.LocBad)},
		{impl.Local{}, 110, iv(-far-1, 20), narrowCode(impl.LocBad)},
		{impl.Local{At: 1}, 110, iv(20, 40), narrowCode(impl.LocBad)},
		{impl.Local{Bound: iv(0, 1)}, 110, iv(20, 40), narrowCode(impl.LocBad)},
		{loc(12, 10, 100), 110, iv(20, 40), narrowCode(impl.LocBad)},
		{l, math.MinInt, iv(20, 40), narrowCode(impl.LocBad)},
		{l, math.MaxInt, iv(20, 40), narrowCode(impl.LocBad)},
		{l, 110, iv(math.MinInt, math.MaxInt), narrowCode(impl.LocBad)},
		{l, 110, iv(math.MaxInt, math.MinInt), narrowCode(impl.LocBad)},
		// The code that is named first counts.
		{l, 99, iv(40, 20), narrowCode(impl.LocBad)},
		{loc(far, far, 7), 8, iv(40, 20), narrowCode(impl.LocBad)},
		{l, 110, iv(30, far+1), narrowCode(impl.LocBad)},
		{l, 99, iv(30, 40), narrowCode(impl.LocBack)},
		{loc(far, far, 7), 8, iv(0, 1), narrowCode(impl.LocOver)},
		{loc(far, far, 7), 6, iv(0, 1), narrowCode(impl.LocBack)},
	}
	for _, c := range cases {
		checkNarrow(t, c.l, d, c.count, c.with, c.want)
	}
	for _, wrong := range []impl.Drift{dr(0, 0), dr(3, 4), dr(-1, 4), dr(0, impl.MaxDen+1)} {
		checkNarrow(t, impl.Local{}, wrong, 110, iv(20, 40), narrowCode(impl.LocBad))
		checkNarrow(t, l, wrong, 99, iv(20, 40), narrowCode(impl.LocBad))
		checkNarrow(t, l, wrong, 110, iv(30, 40), narrowCode(impl.LocBad))
	}
}

func TestKnownForAtItsLimits(t *testing.T) {
	l, d, still := loc(10, 12, 100), dr(1, 4), dr(0, 1)
	cases := []struct {
		l    impl.Local
		d    impl.Drift
		most int
		want numAnswer
	}{
		// The width now is 2; at 2 counts it is still 2, at 3 counts it is 3.
		{l, d, 2, numAnswer{2, true}},
		{l, d, 1, numAnswer{}},
		{l, d, 3, numAnswer{4, true}},
		{l, d, 0, numAnswer{}},
		{l, d, -1, numAnswer{}},
		{l, d, math.MinInt, numAnswer{}},
		{l, d, math.MaxInt, numAnswer{impl.MaxAhead, true}},
		// 4000 counts last from 3200 to 5333, 3999 from 3200 to 5332, and 4001 would be no wider than 4000.
		{l, d, 2135, numAnswer{impl.MaxAhead, true}},
		{l, d, 2136, numAnswer{impl.MaxAhead, true}},
		{l, d, 2134, numAnswer{impl.MaxAhead - 1, true}},
		{l, still, 2, numAnswer{impl.MaxAhead, true}},
		{l, still, 1, numAnswer{}},
		{loc(10, 10, 100), still, 0, numAnswer{impl.MaxAhead, true}},
		{loc(10, 10, 100), dr(1, 2), 0, numAnswer{0, true}},
		{loc(10, 10, 100), dr(1, 2), 1, numAnswer{1, true}},
		{loc(10, 10, 100), dr(1, 2), -1, numAnswer{}},
		{loc(-far, far, 0), still, 2 * far, numAnswer{0, true}},
		{loc(-far, far, 0), still, 2*far - 1, numAnswer{}},
		// Counts end at MaxTime.
		{loc(10, 12, far), d, 2, numAnswer{0, true}},
		{loc(10, 12, far), d, math.MaxInt, numAnswer{0, true}},
		{loc(10, 12, far), d, 1, numAnswer{}},
		{loc(10, 12, far-7), still, 2, numAnswer{7, true}},
		{loc(10, 12, far-impl.MaxAhead), still, 2, numAnswer{impl.MaxAhead, true}},
		{loc(10, 12, far-impl.MaxAhead+1), still, 2, numAnswer{impl.MaxAhead - 1, true}},
		// Bounds run over ahead of MaxAhead.
		{loc(far-7, far-5, 100), still, 2, numAnswer{5, true}},
		{loc(far-7, far-5, 100), still, math.MaxInt, numAnswer{5, true}},
		{loc(far-20, far-13, 100), d, math.MaxInt, numAnswer{10, true}},
		{loc(far, far, 100), d, 0, numAnswer{0, true}},
		{loc(far-impl.MaxAhead, far-impl.MaxAhead, 0), still, 0, numAnswer{impl.MaxAhead, true}},
		{loc(far-impl.MaxAhead+1, far-impl.MaxAhead+1, 0), still, 0, numAnswer{impl.MaxAhead - 1, true}},
		// What is wrong or not Known.
		{impl.Local{}, d, 5, numAnswer{}},
		{impl.Local{}, d, math.MaxInt, numAnswer{}},
		{impl.Local{Bound: iv(10, 12), At: 100}, d, 5, numAnswer{}},
		{loc(12, 10, 100), d, 5, numAnswer{}},
		{loc(10, far+1, 100), d, math.MaxInt, numAnswer{}},
		{loc(10, 12, -1), d, 5, numAnswer{}},
		{loc(10, 12, -impl.MaxAhead), d, 5, numAnswer{}},
		{loc(10, 12, far+1), d, 5, numAnswer{}},
		{loc(10, 12, math.MinInt), d, 5, numAnswer{}},
		{loc(10, 12, math.MaxInt), d, math.MaxInt, numAnswer{}},
		{l, dr(3, 4), math.MaxInt, numAnswer{}},
		{l, dr(0, 0), math.MaxInt, numAnswer{}},
		{l, dr(-1, 4), math.MaxInt, numAnswer{}},
		{l, dr(0, impl.MaxDen+1), math.MaxInt, numAnswer{}},
	}
	for _, c := range cases {
		checkKnownFor(t, c.l, c.d, c.most, c.want)
	}
}

func checkCounts(t *testing.T, l impl.Local, d impl.Drift, counts []int) {
	t.Helper()
	for _, count := range counts {
		checkCarry(t, l, d, count, wantCarryOn(l, d, count))
		checkRebase(t, l, d, count, wantRebase(l, d, count))
		checkWidth(t, l, d, count, wantWidthAt(l, d, count))
	}
}

// Every function of the chapter but KnownFor at every mixture of right and wrong arguments around its limits (P6 and P23).
func TestLocalsAgainstTheModel(t *testing.T) {
	counts := []int{math.MinInt, -1, 0, 1, 2, far/2 - 1, far / 2, far/2 + 1, far - 1, far, far + 1, math.MaxInt}
	for _, l := range edgeLocals() {
		if got, want := impl.LocalOk(l), wantLocalOk(l); got != want {
			t.Fatalf("LocalOk(%v) is %v", l, got)
		}
		for _, d := range mixedDrifts() {
			checkCounts(t, l, d, counts)
		}
	}
	for _, bound := range ivalsOf(edgeNumbers()) {
		for _, count := range edgeNumbers() {
			checkLearn(t, bound, count, wantLearn(bound, count))
		}
	}
}

func TestSmallLocalsAgainstTheModel(t *testing.T) {
	counts := []int{-1, 0, 1, 2, 3, 4, 5, 6, 7, 8, 12, 13}
	for _, d := range smallDrifts(5) {
		for _, bound := range ivalsOf([]int{-3, -1, 0, 1, 4}) {
			for _, at := range []int{-1, 0, 1, 5} {
				for _, known := range []bool{true, false} {
					checkCounts(t, impl.Local{Known: known, Bound: bound, At: at}, d, counts)
				}
			}
		}
	}
}

func TestNarrowAgainstTheModel(t *testing.T) {
	locals := []impl.Local{{}, {At: 1}, {Bound: iv(0, 1)}, loc(10, 12, 0), loc(10, 12, 3), loc(-4, 7, 5), loc(12, 10, 3), loc(far, far, 3), loc(far-6, far-6, 3), loc(10, 12, far), loc(10, 12, -1), loc(math.MinInt, math.MaxInt, 3)}
	counts := []int{math.MinInt, -1, 0, 2, 3, 4, 7, far - 1, far, far + 1, math.MaxInt}
	withs := append(ivalsOf(edgeNumbers()), ivalsOf([]int{-3, 0, 3, 9, 10, 11, 12, 13, 14, 17, 18})...)
	for _, l := range locals {
		for _, d := range []impl.Drift{dr(0, 1), dr(1, 4), dr(1, 2), dr(3, 4), dr(0, 0)} {
			for _, count := range counts {
				for _, with := range withs {
					checkNarrow(t, l, d, count, with, wantNarrow(l, d, count, with))
				}
			}
		}
	}
}

func TestKnownForAgainstTheModel(t *testing.T) {
	locals := []impl.Local{{}, {At: 1}, loc(10, 12, 0), loc(10, 12, 100), loc(-far, far, 3), loc(far-3000, far-2990, 3), loc(-8, -8, far-3000), loc(-8, -8, far), loc(far, far, 3), loc(12, 10, 3), loc(3, 3, far+1), loc(3, 3, -7), loc(3, 3, math.MaxInt), loc(3, 3, math.MinInt)}
	mosts := []int{math.MinInt, -1, 0, 1, 2, 3, 4, 9, 10, 11, 100, 1333, 1334, 1335, 2133, 2134, 2135, 2136, 5332, 5333, 5334, far, 2*far - 1, 2 * far, math.MaxInt}
	for _, l := range locals {
		for _, d := range mixedDrifts() {
			widths := widthsAhead(l, d)
			for _, most := range mosts {
				checkKnownFor(t, l, d, most, wantKnownFor(l, widths, most))
			}
		}
	}
}
