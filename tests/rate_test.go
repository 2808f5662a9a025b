package tests

import (
	"math"
	"testing"

	"loop.example/g00072/impl"
)

func checkFracOk(t *testing.T, a impl.Frac, want bool) {
	t.Helper()
	if got := impl.FracOk(a); got != want {
		t.Fatalf("FracOk(%v) is %v", a, got)
	}
}

func checkFracOf(t *testing.T, num, den int, want fracAnswer) {
	t.Helper()
	a, ok := impl.FracOf(num, den)
	if got := (fracAnswer{a, ok}); got != want {
		t.Fatalf("FracOf(%d, %d): got %v, want %v", num, den, got, want)
	}
}

func checkFracCmp(t *testing.T, a, b impl.Frac, want int) {
	t.Helper()
	if got := impl.FracCmp(a, b); got != want {
		t.Fatalf("FracCmp(%v, %v) is %d, want %d", a, b, got, want)
	}
}

func checkRateOf(t *testing.T, a impl.Ival, ca int, b impl.Ival, cb int, want ratesAnswer) {
	t.Helper()
	lo, hi, ok := impl.RateOf(a, ca, b, cb)
	if got := (ratesAnswer{lo, hi, ok}); got != want {
		t.Fatalf("RateOf(%v, %d, %v, %d): got %v, want %v", a, ca, b, cb, got, want)
	}
}

func checkRateOfDrift(t *testing.T, d impl.Drift, want ratesAnswer) {
	t.Helper()
	lo, hi, ok := impl.RateOfDrift(d)
	if got := (ratesAnswer{lo, hi, ok}); got != want {
		t.Fatalf("RateOfDrift(%v): got %v, want %v", d, got, want)
	}
}

func checkRatesMeet(t *testing.T, lo, hi, low, high impl.Frac, want ratesAnswer) {
	t.Helper()
	first, second, ok := impl.RatesMeet(lo, hi, low, high)
	if got := (ratesAnswer{first, second, ok}); got != want {
		t.Fatalf("RatesMeet(%v, %v, %v, %v): got %v, want %v", lo, hi, low, high, got, want)
	}
}

func checkRateCarry(t *testing.T, lo, hi impl.Frac, count int, want pairAnswer) {
	t.Helper()
	a, ok := impl.RateCarry(lo, hi, count)
	if got := (pairAnswer{a, ok}); got != want {
		t.Fatalf("RateCarry(%v, %v, %d): got %v, want %v", lo, hi, count, got, want)
	}
}

func checkRateBroken(t *testing.T, d impl.Drift, a impl.Ival, ca int, b impl.Ival, cb int, want bool) {
	t.Helper()
	if got := impl.RateBroken(d, a, ca, b, cb); got != want {
		t.Fatalf("RateBroken(%v, %v, %d, %v, %d) is %v", d, a, ca, b, cb, got)
	}
}

func ratesTold(lo, hi impl.Frac) ratesAnswer { return ratesAnswer{lo, hi, true} }

func carriedTo(lo, hi int) pairAnswer { return pairAnswer{iv(lo, hi), true} }

func TestLimitsOfRates(t *testing.T) {
	if impl.MaxFrac != 4000000000000 || impl.MaxAway != 1000000 {
		t.Error(impl.MaxFrac, impl.MaxAway)
	}
}

func TestFracOkAtItsLimits(t *testing.T) {
	for _, a := range rightFracs() {
		checkFracOk(t, a, true)
	}
	for _, a := range wrongFracs() {
		checkFracOk(t, a, false)
	}
	for _, a := range edgeFracs() {
		checkFracOk(t, a, wantFracOk(a))
	}
}

// Every two small parts: those with a divisor in common, and 0 by a Den that is not 1, are refused.
func TestFracOkOfSmallParts(t *testing.T) {
	for num := -40; num <= 40; num++ {
		for den := -40; den <= 40; den++ {
			checkFracOk(t, fr(num, den), wantFracOk(fr(num, den)))
		}
	}
}

func TestFracOfAtItsLimits(t *testing.T) {
	cases := []struct {
		num, den int
		want     fracAnswer
	}{
		{6, -4, fracAnswer{fr(-3, 2), true}},
		{-6, -4, fracAnswer{fr(3, 2), true}},
		{-6, 4, fracAnswer{fr(-3, 2), true}},
		{6, 4, fracAnswer{fr(3, 2), true}},
		{0, 1, fracAnswer{fr(0, 1), true}},
		{0, 7, fracAnswer{fr(0, 1), true}},
		{0, -7, fracAnswer{fr(0, 1), true}},
		{0, impl.MaxFrac, fracAnswer{fr(0, 1), true}},
		{0, -impl.MaxFrac, fracAnswer{fr(0, 1), true}},
		{5, 5, fracAnswer{fr(1, 1), true}},
		{5, -5, fracAnswer{fr(-1, 1), true}},
		{12, 3, fracAnswer{fr(4, 1), true}},
		{3, 12, fracAnswer{fr(1, 4), true}},
		{impl.MaxFrac, impl.MaxFrac, fracAnswer{fr(1, 1), true}},
		{-impl.MaxFrac, impl.MaxFrac, fracAnswer{fr(-1, 1), true}},
		{impl.MaxFrac, -impl.MaxFrac, fracAnswer{fr(-1, 1), true}},
		{-impl.MaxFrac, -impl.MaxFrac, fracAnswer{fr(1, 1), true}},
		{impl.MaxFrac, 1, fracAnswer{fr(impl.MaxFrac, 1), true}},
		{impl.MaxFrac, -1, fracAnswer{fr(-impl.MaxFrac, 1), true}},
		{-1, -impl.MaxFrac, fracAnswer{fr(1, impl.MaxFrac), true}},
		{impl.MaxFrac - 1, impl.MaxFrac, fracAnswer{fr(impl.MaxFrac-1, impl.MaxFrac), true}},
		{impl.MaxFrac - 2, impl.MaxFrac, fracAnswer{fr(impl.MaxFrac/2-1, impl.MaxFrac/2), true}},
		{1, 0, fracAnswer{}},
		{0, 0, fracAnswer{}},
		{-1, 0, fracAnswer{}},
		{impl.MaxFrac + 1, 1, fracAnswer{}},
		{-impl.MaxFrac - 1, 1, fracAnswer{}},
		{1, impl.MaxFrac + 1, fracAnswer{}},
		{1, -impl.MaxFrac - 1, fracAnswer{}},
		// In lowest terms these would be within the limits; it is asked for what was handed in.
		{2*impl.MaxFrac + 2, impl.MaxFrac + 1, fracAnswer{}},
		{impl.MaxFrac + 2, 2, fracAnswer{}},
		{2, impl.MaxFrac + 2, fracAnswer{}},
		{0, impl.MaxFrac + 1, fracAnswer{}},
		{math.MaxInt, math.MaxInt, fracAnswer{}},
		{math.MinInt, math.MinInt, fracAnswer{}},
		{math.MinInt, -1, fracAnswer{}},
		{math.MinInt, 1, fracAnswer{}},
		{1, math.MinInt, fracAnswer{}},
		{math.MaxInt, 1, fracAnswer{}},
		{1, math.MaxInt, fracAnswer{}},
		{0, math.MinInt, fracAnswer{}},
	}
	for _, c := range cases {
		checkFracOf(t, c.num, c.den, c.want)
	}
	for _, a := range edgeFracs() {
		checkFracOf(t, a.Num, a.Den, wantFracOf(a.Num, a.Den))
	}
}

func TestFracCmpOfTwo(t *testing.T) {
	cases := []struct {
		a, b impl.Frac
		want int
	}{
		{fr(1, 3), fr(2, 5), -1},
		{fr(-1, 2), fr(-2, 3), 1},
		{fr(-1, 2), fr(1, 3), -1},
		{fr(-1, 2), fr(0, 1), -1},
		{fr(1, 2), fr(0, 1), 1},
		{fr(0, 1), fr(0, 1), 0},
		{fr(5, 3), fr(7, 4), -1},
		{fr(-5, 3), fr(-7, 4), 1},
		{fr(-5, 3), fr(-5, 3), 0},
		{fr(-1, 1), fr(-1, 2), -1},
		{fr(-1, 3), fr(-1, 1), 1},
		{fr(2, 1), fr(5, 2), -1},
		{fr(impl.MaxFrac, 1), fr(impl.MaxFrac-1, 1), 1},
		{fr(-impl.MaxFrac, 1), fr(impl.MaxFrac, 1), -1},
		{fr(1, impl.MaxFrac), fr(1, impl.MaxFrac-1), -1},
		{fr(-1, impl.MaxFrac), fr(-1, impl.MaxFrac-1), 1},
		{fr(1, impl.MaxFrac), fr(0, 1), 1},
		{fr(-1, impl.MaxFrac), fr(0, 1), -1},
		{fr(impl.MaxFrac-1, impl.MaxFrac), fr(1, 1), -1},
		{fr(impl.MaxFrac, impl.MaxFrac-1), fr(1, 1), 1},
		{fr(impl.MaxFrac-1, impl.MaxFrac), fr(impl.MaxFrac-2, impl.MaxFrac-1), 1},
		{fr(1-impl.MaxFrac, impl.MaxFrac), fr(2-impl.MaxFrac, impl.MaxFrac-1), -1},
		{fr(impl.MaxFrac, impl.MaxFrac-1), fr(impl.MaxFrac-1, impl.MaxFrac-2), -1},
		{fr(impl.MaxFrac-1, impl.MaxFrac), fr(impl.MaxFrac-1, impl.MaxFrac), 0},
		// The first is the greater one, though of its product the lower 64 bits are all 0, and of the other one's all 1.
		{fr(1<<41, 1<<41+1), fr(1<<41-1, 1<<41), 1},
		{fr(-1<<41, 1<<41+1), fr(1-1<<41, 1<<41), -1},
		{fr(1<<41+1, 1<<41), fr(1<<41, 1<<41-1), -1},
		{fr(2, 3), fr(impl.MaxFrac-1, impl.MaxFrac), -1},
	}
	for _, c := range cases {
		checkFracCmp(t, c.a, c.b, c.want)
		checkFracCmp(t, c.b, c.a, -c.want)
	}
}

// Whatever the other one is, and although the two parts could be compared.
func TestFracCmpOfWhatIsNoFraction(t *testing.T) {
	for _, wrong := range wrongFracs() {
		for _, other := range append(wrongFracs(), rightFracs()...) {
			checkFracCmp(t, wrong, other, 0)
			checkFracCmp(t, other, wrong, 0)
		}
	}
	checkFracCmp(t, fr(2, 4), fr(1, 3), 0)
	checkFracCmp(t, fr(1, 3), fr(2, 4), 0)
}

func TestFracCmpAgainstTheModel(t *testing.T) {
	for _, list := range [][]impl.Frac{edgeFracs(), closeFracs(), smallFracs(9)} {
		for _, a := range list {
			for _, b := range list {
				checkFracCmp(t, a, b, wantFracCmp(a, b))
			}
		}
	}
}

func TestRateOfAtItsLimits(t *testing.T) {
	cases := []struct {
		a    impl.Ival
		ca   int
		b    impl.Ival
		cb   int
		want ratesAnswer
	}{
		{iv(0, 2), 0, iv(10, 12), 5, ratesTold(fr(8, 5), fr(12, 5))},
		{iv(0, 2), 3, iv(10, 12), 8, ratesTold(fr(8, 5), fr(12, 5))},
		{iv(0, 2), 0, iv(10, 12), 4, ratesTold(fr(2, 1), fr(3, 1))},
		{iv(0, 0), 0, iv(0, 0), 1, ratesTold(fr(0, 1), fr(0, 1))},
		{iv(0, 0), 0, iv(0, 0), 7, ratesTold(fr(0, 1), fr(0, 1))},
		// b's Lo less a's Hi at -1, 0 and 1.
		{iv(0, 10), 0, iv(9, 12), 5, ratesTold(fr(0, 1), fr(12, 5))},
		{iv(0, 10), 0, iv(10, 12), 5, ratesTold(fr(0, 1), fr(12, 5))},
		{iv(0, 10), 0, iv(11, 12), 5, ratesTold(fr(1, 5), fr(12, 5))},
		{iv(0, 10), 0, iv(-90, 12), 5, ratesTold(fr(0, 1), fr(12, 5))},
		// b's Hi at a's Lo, and one below and above it.
		{iv(5, 10), 0, iv(3, 5), 5, ratesTold(fr(0, 1), fr(0, 1))},
		{iv(5, 10), 0, iv(3, 6), 5, ratesTold(fr(0, 1), fr(1, 5))},
		{iv(5, 10), 0, iv(3, 4), 5, ratesAnswer{}},
		{iv(-8, -6), 0, iv(-9, -9), 5, ratesAnswer{}},
		{iv(-8, -6), 0, iv(-3, 4), 9, ratesTold(fr(1, 3), fr(4, 3))},
		// The counts at their limits.
		{iv(0, 2), -1, iv(10, 12), 5, ratesAnswer{}},
		{iv(0, 2), 4, iv(10, 12), 5, ratesTold(fr(8, 1), fr(12, 1))},
		{iv(0, 2), 5, iv(10, 12), 5, ratesAnswer{}},
		{iv(0, 2), 6, iv(10, 12), 5, ratesAnswer{}},
		{iv(0, 2), 0, iv(10, 12), 0, ratesAnswer{}},
		{iv(0, 2), 0, iv(10, 12), 1, ratesTold(fr(8, 1), fr(12, 1))},
		{iv(0, 2), 0, iv(10, 12), far, ratesTold(fr(1, far/8), fr(3, far/4))},
		{iv(0, 2), 0, iv(10, 12), far + 1, ratesAnswer{}},
		{iv(0, 2), far - 1, iv(10, 12), far, ratesTold(fr(8, 1), fr(12, 1))},
		{iv(0, 2), far, iv(10, 12), far + 1, ratesAnswer{}},
		{iv(0, 2), math.MinInt, iv(10, 12), math.MaxInt, ratesAnswer{}},
		{iv(0, 2), math.MaxInt, iv(10, 12), math.MinInt, ratesAnswer{}},
		// The parts at their greatest.
		{iv(-far, -far), 0, iv(far, far), 1, ratesTold(fr(2*far, 1), fr(2*far, 1))},
		{iv(-far, -far), 0, iv(far, far), far, ratesTold(fr(2, 1), fr(2, 1))},
		{iv(-far, -far), 0, iv(far, far), far - 1, ratesTold(fr(2*far, far-1), fr(2*far, far-1))},
		{iv(-far, far), 0, iv(-far, far), 1, ratesTold(fr(0, 1), fr(2*far, 1))},
		{iv(-far, far), 0, iv(-far, -far), 1, ratesTold(fr(0, 1), fr(0, 1))},
		{iv(far, far), 0, iv(-far, -far), 1, ratesAnswer{}},
		// What is no interval.
		{iv(2, 1), 0, iv(10, 12), 5, ratesAnswer{}},
		{iv(0, 2), 0, iv(12, 11), 5, ratesAnswer{}},
		{iv(-far-1, 2), 0, iv(10, 12), 5, ratesAnswer{}},
		{iv(0, 2), 0, iv(10, far+1), 5, ratesAnswer{}},
		{iv(math.MinInt, math.MaxInt), 0, iv(10, 12), 5, ratesAnswer{}},
		{iv(math.MinInt, 2), 0, iv(10, math.MaxInt), 5, ratesAnswer{}},
	}
	for _, c := range cases {
		checkRateOf(t, c.a, c.ca, c.b, c.cb, c.want)
	}
}

func TestRateOfDriftAtItsLimits(t *testing.T) {
	cases := []struct {
		d    impl.Drift
		want ratesAnswer
	}{
		{dr(1, 4), ratesTold(fr(4, 5), fr(4, 3))},
		{dr(2, 8), ratesTold(fr(4, 5), fr(4, 3))},
		{dr(0, 1), ratesTold(fr(1, 1), fr(1, 1))},
		{dr(0, 9), ratesTold(fr(1, 1), fr(1, 1))},
		{dr(1, 2), ratesTold(fr(2, 3), fr(2, 1))},
		{dr(1, 3), ratesTold(fr(3, 4), fr(3, 2))},
		{dr(impl.MaxDen/2, impl.MaxDen), ratesTold(fr(2, 3), fr(2, 1))},
		{dr(1, impl.MaxDen), ratesTold(fr(1000000, 1000001), fr(1000000, 999999))},
		{dr(0, impl.MaxDen), ratesTold(fr(1, 1), fr(1, 1))},
		{dr(0, impl.MaxDen+1), ratesAnswer{}},
		{dr(2, 3), ratesAnswer{}},
		{dr(1, 1), ratesAnswer{}},
		{dr(-1, 4), ratesAnswer{}},
		{dr(0, 0), ratesAnswer{}},
		{dr(0, -1), ratesAnswer{}},
		{dr(math.MaxInt, math.MaxInt), ratesAnswer{}},
		{dr(math.MinInt, math.MinInt), ratesAnswer{}},
	}
	for _, c := range cases {
		checkRateOfDrift(t, c.d, c.want)
	}
	for _, d := range append(edgeDrifts(), smallDrifts(30)...) {
		checkRateOfDrift(t, d, wantRateOfDrift(d))
	}
}

func TestRatesMeetAtTheirEnds(t *testing.T) {
	cases := []struct {
		lo, hi, low, high impl.Frac
		want              ratesAnswer
	}{
		{fr(1, 2), fr(3, 2), fr(2, 3), fr(4, 3), ratesTold(fr(2, 3), fr(4, 3))},
		{fr(2, 3), fr(4, 3), fr(1, 2), fr(3, 2), ratesTold(fr(2, 3), fr(4, 3))},
		{fr(1, 2), fr(4, 3), fr(2, 3), fr(3, 2), ratesTold(fr(2, 3), fr(4, 3))},
		{fr(2, 3), fr(3, 2), fr(1, 2), fr(4, 3), ratesTold(fr(2, 3), fr(4, 3))},
		{fr(1, 2), fr(3, 2), fr(1, 2), fr(3, 2), ratesTold(fr(1, 2), fr(3, 2))},
		// In one fraction, and missed by the least there is.
		{fr(1, 2), fr(2, 3), fr(2, 3), fr(4, 3), ratesTold(fr(2, 3), fr(2, 3))},
		{fr(2, 3), fr(4, 3), fr(1, 2), fr(2, 3), ratesTold(fr(2, 3), fr(2, 3))},
		{fr(1, 2), fr(impl.MaxFrac-2, impl.MaxFrac-1), fr(impl.MaxFrac-1, impl.MaxFrac), fr(4, 3), ratesAnswer{}},
		{fr(1, 2), fr(impl.MaxFrac-1, impl.MaxFrac), fr(impl.MaxFrac-1, impl.MaxFrac), fr(4, 3), ratesTold(fr(impl.MaxFrac-1, impl.MaxFrac), fr(impl.MaxFrac-1, impl.MaxFrac))},
		{fr(1, 2), fr(impl.MaxFrac-1, impl.MaxFrac), fr(impl.MaxFrac-2, impl.MaxFrac-1), fr(4, 3), ratesTold(fr(impl.MaxFrac-2, impl.MaxFrac-1), fr(impl.MaxFrac-1, impl.MaxFrac))},
		{fr(1, 2), fr(2, 3), fr(3, 4), fr(4, 3), ratesAnswer{}},
		{fr(3, 4), fr(4, 3), fr(1, 2), fr(2, 3), ratesAnswer{}},
		// Below 0 too: the document asks for no sign here.
		{fr(-3, 2), fr(1, 2), fr(-2, 3), fr(4, 3), ratesTold(fr(-2, 3), fr(1, 2))},
		{fr(-3, 2), fr(-2, 3), fr(-2, 3), fr(0, 1), ratesTold(fr(-2, 3), fr(-2, 3))},
		{fr(-3, 2), fr(-2, 3), fr(-1, 2), fr(0, 1), ratesAnswer{}},
		{fr(-impl.MaxFrac, 1), fr(impl.MaxFrac, 1), fr(-1, impl.MaxFrac), fr(1, impl.MaxFrac), ratesTold(fr(-1, impl.MaxFrac), fr(1, impl.MaxFrac))},
		// A first one that is above its second one meets nothing.
		{fr(3, 2), fr(1, 2), fr(0, 1), fr(7, 1), ratesAnswer{}},
		{fr(0, 1), fr(7, 1), fr(3, 2), fr(1, 2), ratesAnswer{}},
	}
	for _, c := range cases {
		checkRatesMeet(t, c.lo, c.hi, c.low, c.high, c.want)
	}
}

// One that is no fraction, at each of the four places.
func TestRatesMeetOfWhatIsNoFraction(t *testing.T) {
	for _, wrong := range wrongFracs() {
		checkRatesMeet(t, wrong, fr(3, 2), fr(2, 3), fr(4, 3), ratesAnswer{})
		checkRatesMeet(t, fr(1, 2), wrong, fr(2, 3), fr(4, 3), ratesAnswer{})
		checkRatesMeet(t, fr(1, 2), fr(3, 2), wrong, fr(4, 3), ratesAnswer{})
		checkRatesMeet(t, fr(1, 2), fr(3, 2), fr(2, 3), wrong, ratesAnswer{})
		checkRatesMeet(t, wrong, wrong, wrong, wrong, ratesAnswer{})
	}
}

func checkRatesByFour(t *testing.T, list []impl.Frac) {
	t.Helper()
	for _, lo := range list {
		for _, hi := range list {
			for _, low := range list {
				for _, high := range list {
					checkRatesMeet(t, lo, hi, low, high, wantRatesMeet(lo, hi, low, high))
				}
			}
		}
	}
}

func TestRatesMeetAgainstTheModel(t *testing.T) {
	checkRatesByFour(t, smallFracs(3))
	checkRatesByFour(t, append(rightFracs(), fr(2, 4), impl.Frac{}))
}

func TestRateCarryAtItsLimits(t *testing.T) {
	cases := []struct {
		lo, hi impl.Frac
		count  int
		want   pairAnswer
	}{
		{fr(4, 5), fr(4, 3), 10, carriedTo(8, 13)},
		{fr(4, 5), fr(4, 3), 11, carriedTo(9, 14)},
		{fr(4, 5), fr(4, 3), 15, carriedTo(12, 20)},
		{fr(4, 5), fr(4, 3), 16, carriedTo(13, 21)},
		{fr(1, 1), fr(1, 1), 7, carriedTo(7, 7)},
		// The count at its limits.
		{fr(4, 5), fr(4, 3), -1, pairAnswer{}},
		{fr(4, 5), fr(4, 3), 0, carriedTo(0, 0)},
		{fr(4, 5), fr(4, 3), 1, carriedTo(1, 1)},
		{fr(4, 5), fr(4, 3), impl.MaxAway, carriedTo(800000, 1333333)},
		{fr(4, 5), fr(4, 3), impl.MaxAway + 1, pairAnswer{}},
		{fr(4, 5), fr(4, 3), math.MaxInt, pairAnswer{}},
		{fr(4, 5), fr(4, 3), math.MinInt, pairAnswer{}},
		// The first rate at 0 and below it.
		{fr(0, 1), fr(4, 3), 10, carriedTo(0, 13)},
		{fr(-1, impl.MaxFrac), fr(4, 3), 10, pairAnswer{}},
		{fr(-1, 1), fr(4, 3), 0, pairAnswer{}},
		{fr(-impl.MaxFrac, 1), fr(4, 3), 10, pairAnswer{}},
		{fr(0, 1), fr(0, 1), impl.MaxAway, carriedTo(0, 0)},
		// Rates between which no whole number lies, just one, and that stand the wrong way round.
		{fr(1, 3), fr(2, 3), 1, pairAnswer{}},
		{fr(1, 3), fr(2, 3), 2, carriedTo(1, 1)},
		{fr(1, 3), fr(1, 3), 2, pairAnswer{}},
		{fr(1, 3), fr(1, 3), 3, carriedTo(1, 1)},
		{fr(1, impl.MaxFrac), fr(impl.MaxFrac-1, impl.MaxFrac), 1, pairAnswer{}},
		{fr(1, impl.MaxFrac), fr(1, 1), 1, carriedTo(1, 1)},
		{fr(1, impl.MaxFrac), fr(1, 2), impl.MaxAway, carriedTo(1, 500000)},
		{fr(4, 3), fr(4, 5), 10, pairAnswer{}},
		{fr(4, 3), fr(5, 4), 1, pairAnswer{}},
		{fr(4, 3), fr(4, 5), 0, carriedTo(0, 0)},
		// The second rate below 0: above count 0 nothing is at most that.
		{fr(0, 1), fr(-1, 2), 1, pairAnswer{}},
		{fr(0, 1), fr(-1, 2), 2, pairAnswer{}},
		{fr(0, 1), fr(-1, impl.MaxFrac), 1, pairAnswer{}},
		{fr(0, 1), fr(-1, impl.MaxFrac), impl.MaxAway, pairAnswer{}},
		{fr(0, 1), fr(-impl.MaxFrac, 1), impl.MaxAway, pairAnswer{}},
		{fr(0, 1), fr(-1, 2), 0, carriedTo(0, 0)},
		{fr(5, 1), fr(-3, 1), 0, carriedTo(0, 0)},
		// What comes at the edges of what is IvalOk, and one beyond.
		{fr(0, 1), fr(far, 1), 1, carriedTo(0, far)},
		{fr(0, 1), fr(far+1, 1), 1, pairAnswer{}},
		{fr(far, 1), fr(far, 1), 1, carriedTo(far, far)},
		{fr(far+1, 1), fr(far+1, 1), 1, pairAnswer{}},
		{fr(2*far-1, 2), fr(2*far+1, 2), 1, carriedTo(far, far)},
		{fr(2*far+1, 2), fr(2*far+3, 2), 1, pairAnswer{}},
		{fr(far/2, 1), fr(2*far+1, 4), 2, carriedTo(far, far)},
		{fr(1, 1), fr(1000000, 1), impl.MaxAway, carriedTo(1000000, far)},
		{fr(1, 1), fr(1000001, 1), impl.MaxAway, pairAnswer{}},
		{fr(1, 1), fr(2000001, 2), impl.MaxAway, pairAnswer{}},
		{fr(1, 1), fr(far+1, 1000001), impl.MaxAway, carriedTo(1000000, 999999000001)},
		{fr(1, 1), fr(impl.MaxFrac, 3999999), impl.MaxAway, pairAnswer{}},
		{fr(1, 1), fr(impl.MaxFrac, 4000001), impl.MaxAway, carriedTo(1000000, 999999750000)},
		// The products at their greatest.
		{fr(0, 1), fr(impl.MaxFrac, 1), impl.MaxAway, pairAnswer{}},
		{fr(impl.MaxFrac, 1), fr(impl.MaxFrac, 1), impl.MaxAway, pairAnswer{}},
		{fr(impl.MaxFrac-1, impl.MaxFrac), fr(impl.MaxFrac, impl.MaxFrac-1), impl.MaxAway, carriedTo(1000000, 1000000)},
		{fr(impl.MaxFrac, impl.MaxFrac-1), fr(impl.MaxFrac, impl.MaxFrac-1), impl.MaxAway, pairAnswer{}},
	}
	for _, c := range cases {
		checkRateCarry(t, c.lo, c.hi, c.count, c.want)
	}
}

func TestRateCarryOfWhatIsNoFraction(t *testing.T) {
	for _, wrong := range wrongFracs() {
		for _, count := range []int{0, 1, 10, impl.MaxAway} {
			checkRateCarry(t, wrong, fr(4, 3), count, pairAnswer{})
			checkRateCarry(t, fr(4, 5), wrong, count, pairAnswer{})
			checkRateCarry(t, wrong, wrong, count, pairAnswer{})
		}
	}
}

func TestRateCarryAgainstTheModel(t *testing.T) {
	counts := []int{math.MinInt, -impl.MaxAway, -1, 0, 1, 2, 3, 4, 7, 999, impl.MaxAway - 1, impl.MaxAway, impl.MaxAway + 1, far, math.MaxInt}
	for _, list := range [][]impl.Frac{append(rightFracs(), wrongFracs()...), smallFracs(7), closeFracs()} {
		for _, lo := range list {
			for _, hi := range list {
				for _, count := range counts {
					checkRateCarry(t, lo, hi, count, wantRateCarry(lo, hi, count))
				}
			}
		}
	}
}

func TestRateBrokenAtItsLimits(t *testing.T) {
	cases := []struct {
		d    impl.Drift
		a    impl.Ival
		ca   int
		b    impl.Ival
		cb   int
		want bool
	}{
		// By a drift of 1 by 4 a count of 10 takes from 8 to 13 and a third.
		{dr(1, 4), iv(0, 0), 0, iv(20, 20), 10, true},
		{dr(1, 4), iv(0, 0), 0, iv(13, 20), 10, false},
		{dr(1, 4), iv(0, 0), 0, iv(14, 20), 10, true},
		{dr(1, 4), iv(0, 0), 0, iv(0, 8), 10, false},
		{dr(1, 4), iv(0, 0), 0, iv(0, 7), 10, true},
		{dr(1, 4), iv(0, 1), 0, iv(14, 20), 10, false},
		{dr(1, 4), iv(-1, 0), 0, iv(0, 7), 10, false},
		{dr(1, 4), iv(0, 0), 5, iv(13, 20), 15, false},
		{dr(1, 4), iv(0, 0), 5, iv(14, 20), 15, true},
		// Met in one fraction: 12 counts take from 9 and 3 fifths to 16.
		{dr(1, 4), iv(0, 0), 0, iv(16, 20), 12, false},
		{dr(1, 4), iv(0, 0), 0, iv(17, 20), 12, true},
		{dr(1, 4), iv(0, 0), 0, iv(0, 12), 15, false},
		{dr(1, 4), iv(0, 0), 0, iv(0, 11), 15, true},
		{dr(0, 1), iv(0, 0), 0, iv(10, 10), 10, false},
		{dr(0, 1), iv(0, 0), 0, iv(11, 11), 10, true},
		{dr(0, 1), iv(0, 0), 0, iv(9, 9), 10, true},
		{dr(0, 1), iv(3, 3), 0, iv(3, 3), 10, true},
		{dr(1, 2), iv(0, far), 0, iv(0, far), far, false},
		{dr(1, 2), iv(0, 0), 0, iv(far, far), far / 2, false},
		{dr(1, 2), iv(0, 0), 0, iv(far, far), far/2 - 1, true},
		{dr(1, impl.MaxDen), iv(0, 0), 0, iv(0, 999999000001), far, false},
		{dr(1, impl.MaxDen), iv(0, 0), 0, iv(0, 999999000000), far, true},
		{dr(1, impl.MaxDen), iv(-far, -far), 0, iv(0, 1), 999999000000, false},
		{dr(1, impl.MaxDen), iv(-far, -far), 0, iv(1, 1), 999999000000, true},
		// Of what there are no rates nothing is broken.
		{dr(1, 4), iv(0, 0), 10, iv(20, 20), 10, false},
		{dr(1, 4), iv(0, 0), 11, iv(20, 20), 10, false},
		{dr(1, 4), iv(0, 0), -1, iv(20, 20), 10, false},
		{dr(0, 1), iv(0, 0), 0, iv(20, 20), far, true},
		{dr(0, 1), iv(0, 0), 0, iv(20, 20), far + 1, false},
		{dr(1, 4), iv(5, 6), 0, iv(5, 5), 10, true},
		{dr(1, 4), iv(5, 6), 0, iv(4, 4), 10, false},
		{dr(1, 4), iv(1, 0), 0, iv(20, 20), 10, false},
		{dr(1, 4), iv(0, 0), 0, iv(21, 20), 10, false},
		{dr(1, 4), iv(0, 0), 0, iv(20, far+1), 10, false},
		{dr(1, 4), iv(-far, 0), 0, iv(20, 20), 10, true},
		{dr(1, 4), iv(-far-1, 0), 0, iv(20, 20), 10, false},
		{dr(3, 4), iv(0, 0), 0, iv(20, 20), 10, false},
		{dr(0, 0), iv(0, 0), 0, iv(20, 20), 10, false},
		{dr(-1, 4), iv(0, 0), 0, iv(20, 20), 10, false},
		{dr(0, impl.MaxDen), iv(0, 0), 0, iv(20, 20), 10, true},
		{dr(0, impl.MaxDen+1), iv(0, 0), 0, iv(20, 20), 10, false},
	}
	for _, c := range cases {
		checkRateBroken(t, c.d, c.a, c.ca, c.b, c.cb, c.want)
	}
}

func checkBetweenCounts(t *testing.T, drifts []impl.Drift, list []impl.Ival, counts []int) {
	t.Helper()
	for _, a := range list {
		for _, b := range list {
			for _, ca := range counts {
				for _, cb := range counts {
					checkRateOf(t, a, ca, b, cb, wantRateOf(a, ca, b, cb))
					d := drifts[(ca&63+cb&31+a.Lo&7+b.Hi&15)%len(drifts)]
					checkRateBroken(t, d, a, ca, b, cb, wantRateBroken(d, a, ca, b, cb))
				}
			}
		}
	}
}

// RateOf and RateBroken at every mixture of right and wrong arguments around their limits (P23).
func TestRatesOfTwoIntervalsAgainstTheModel(t *testing.T) {
	checkBetweenCounts(t, smallDrifts(5), ivalsOf([]int{-2, -1, 0, 1, 2, 5}), []int{-1, 0, 1, 2, 3, 4, 7})
	edges := ivalsOf([]int{math.MinInt, -far - 1, -far, 0, 1, far, far + 1, math.MaxInt})
	checkBetweenCounts(t, mixedDrifts(), edges, []int{math.MinInt, -1, 0, 1, far - 1, far, far + 1, math.MaxInt})
}
