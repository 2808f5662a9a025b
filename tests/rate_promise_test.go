package tests

import (
	"math/big"
	"slices"
	"testing"

	"loop.example/g00072/impl"
)

// A fraction whose parts have as many digits as it happens, up to the limits.
func (l *lottery) frac() impl.Frac {
	for {
		if a, ok := impl.FracOf(l.part()*(1-2*l.number(2)), 1+l.part()); ok {
			return a
		}
	}
}

func (l *lottery) part() int {
	whole := l.number(1<<21)<<21 + l.number(1<<21)
	return whole >> l.number(42)
}

// P11: what is the same is one fraction; turned round the two are the opposite; what is less than what is less is less.
func checkOneOrder(t *testing.T, list []impl.Frac) {
	t.Helper()
	for _, a := range list {
		for _, b := range list {
			c := impl.FracCmp(a, b)
			if c < -1 || c > 1 || impl.FracCmp(b, a) != -c || (c == 0) != (a == b) {
				t.Fatalf("FracCmp(%v, %v) is %d, and turned round %d", a, b, c, impl.FracCmp(b, a))
			}
			if c != -1 {
				continue
			}
			for _, next := range list {
				if impl.FracCmp(b, next) == -1 && impl.FracCmp(a, next) != -1 {
					t.Fatalf("%v is less than %v, and that than %v, but not the first than the last", a, b, next)
				}
			}
		}
	}
}

func TestFractionsHaveOneOrder(t *testing.T) {
	checkOneOrder(t, smallFracs(7))
	checkOneOrder(t, closeFracs())
	checkOneOrder(t, rightFracs())
	draw := &lottery{state: 11}
	for range 40 {
		var list []impl.Frac
		for range 25 {
			list = append(list, draw.frac())
		}
		checkOneOrder(t, list)
	}
}

// The order is that of what the fractions are worth, for parts of any length.
func TestTheOrderIsThatOfWorth(t *testing.T) {
	draw := &lottery{state: 5}
	seen, beyond := map[int]int{}, 0
	for range 60000 {
		a, b := draw.frac(), draw.frac()
		if draw.number(3) == 0 {
			// One that has nearly the same worth.
			b, _ = impl.FracOf(a.Num-1+draw.number(3), a.Den)
		}
		if !impl.FracOk(b) {
			continue
		}
		checkFracCmp(t, a, b, wantFracCmp(a, b))
		seen[impl.FracCmp(a, b)]++
		if !times(bigOf(a.Num), bigOf(b.Den)).IsInt64() {
			beyond++
		}
	}
	if seen[-1] < 1000 || seen[0] < 1000 || seen[1] < 1000 || beyond < 1000 {
		t.Fatal("too few of a kind", seen, beyond)
	}
}

// Sorted by FracCmp, each is less than every one behind it.
func TestFractionsAreSortedByTheirOrder(t *testing.T) {
	list := slices.Concat(closeFracs(), smallFracs(9), rightFracs())
	slices.SortFunc(list, impl.FracCmp)
	list = slices.Compact(list)
	for i, a := range list {
		for _, b := range list[i+1:] {
			checkFracCmp(t, a, b, -1)
		}
	}
	if len(list) < 150 {
		t.Fatal("too few", len(list))
	}
}

func checkLowestTerms(t *testing.T, num, den int) {
	t.Helper()
	a, ok := impl.FracOf(num, den)
	if !ok || !impl.FracOk(a) || a.Den < 1 {
		t.Fatalf("FracOf(%d, %d) is %v, %v", num, den, a, ok)
	}
	if times(bigOf(a.Num), bigOf(den)).Cmp(times(bigOf(num), bigOf(a.Den))) != 0 {
		t.Fatalf("%d by %d is not worth %v", num, den, a)
	}
	if new(big.Int).GCD(nil, nil, new(big.Int).Abs(bigOf(a.Num)), bigOf(a.Den)).Int64() != 1 {
		t.Fatalf("%d by %d is %v, not in lowest terms", num, den, a)
	}
	checkFracOf(t, a.Num, a.Den, fracAnswer{a, true})
	checkFracOf(t, -num, -den, fracAnswer{a, true})
	checkFracOf(t, -num, den, fracAnswer{fr(-a.Num, a.Den), true})
}

// P11: fractions are in lowest terms, and worth what they were; whatever both parts are multiplied by is left out again.
func TestFractionsAreInLowestTermsAndWorthWhatTheyWere(t *testing.T) {
	for num := -60; num <= 60; num++ {
		for den := -60; den <= 60; den++ {
			if den != 0 {
				checkLowestTerms(t, num, den)
			}
		}
	}
	draw := &lottery{state: 77}
	shared := 0
	for range 20000 {
		a := draw.frac()
		checkLowestTerms(t, a.Num, a.Den)
		by := 1 + draw.part()
		if max(a.Num, -a.Num, a.Den) > impl.MaxFrac/by {
			continue
		}
		checkFracOf(t, a.Num*by, a.Den*by, fracAnswer{a, true})
		checkFracOf(t, -a.Num*by, -a.Den*by, fracAnswer{a, true})
		checkFracOk(t, fr(a.Num*by, a.Den*by), by == 1)
		shared++
	}
	if shared < 3000 {
		t.Fatal("too few that had a divisor in common", shared)
	}
}

// What was known of true time at a count.
type sighting struct {
	bound impl.Ival
	count int
}

// Bounds that have true time at an end, between, or far from both.
func (l *lottery) sight(o impl.Osc) sighting {
	return sighting{l.around(o.Time, 1+l.part()%(1<<l.number(30))), o.Count}
}

// P11: of an oscillator within its drift nothing is broken, between no two marks; and its true rate is in what both rates have in common.
func checkNotBroken(t *testing.T, name string, d impl.Drift, seen []sighting, marks []impl.Mark) (told int) {
	t.Helper()
	low, high, _ := impl.RateOfDrift(d)
	for i, a := range seen {
		for j, b := range seen[i+1:] {
			if impl.RateBroken(d, a.bound, a.count, b.bound, b.count) {
				t.Fatalf("%s by %v: %v and %v are broken, of the marks %v and %v", name, d, a, b, marks[i], marks[i+1+j])
			}
			lo, hi, ok := impl.RateOf(a.bound, a.count, b.bound, b.count)
			if ok != (a.count < b.count) {
				t.Fatalf("%s by %v: no rates of %v and %v", name, d, a, b)
			}
			if !ok {
				continue
			}
			rate, _ := impl.FracOf(marks[i+1+j].Time-marks[i].Time, b.count-a.count)
			first, second, ok := impl.RatesMeet(lo, hi, low, high)
			if !ok || impl.FracCmp(first, rate) > 0 || impl.FracCmp(rate, second) > 0 {
				t.Fatalf("%s by %v: %v is not in %v to %v, of %v and %v", name, d, rate, first, second, a, b)
			}
			told++
		}
	}
	return told
}

func TestNothingIsBrokenWhereTheDriftWasKept(t *testing.T) {
	draw := &lottery{state: 3}
	strides := []int{1, 2, 3, 5, 1, 8, 13, 0, 40, 7, 1000, 1, 999999, 6, far / 60}
	for name, tick := range ticks() {
		for _, d := range rightDrifts() {
			o := osc(d, 50, 7)
			var seen []sighting
			var marks []impl.Mark
			for step := range 40 {
				by := strides[step%len(strides)]
				next, ok := impl.OscStep(o, impl.Stride{By: by, Want: tick(step, by)})
				if !ok {
					t.Fatalf("%s by %v ended at %v", name, d, o)
				}
				o = next
				seen, marks = append(seen, draw.sight(o)), append(marks, mk(o.Time, o.Count))
			}
			if told := checkNotBroken(t, name, d, seen, marks); told < 600 {
				t.Fatalf("%s by %v: only %d rates", name, d, told)
			}
		}
	}
}

// Where true time was known to the number, it is broken just if it may not be counted so.
func TestBrokenIsWhatMayNotBeCounted(t *testing.T) {
	seen := map[bool]int{}
	for _, d := range smallDrifts(8) {
		for _, from := range []int{0, -9, 4} {
			for time := range 60 {
				for count := 1; count < 30; count++ {
					want := impl.DriftOk(d) && !impl.MayCount(d, time, count)
					checkRateBroken(t, d, iv(from, from), 6, iv(from+time, from+time), 6+count, want)
					seen[want]++
				}
			}
		}
	}
	for _, d := range rightDrifts() {
		for _, count := range []int{1, 2, 999, 1000000, far / 3, far / 2} {
			a, _ := impl.Between(d, count)
			for _, time := range []int{a.Lo - 1, a.Lo, a.Hi, min(a.Hi+1, far)} {
				checkRateBroken(t, d, iv(0, 0), far/4, iv(max(time, 0), time), far/4+count, time >= 0 && !impl.MayCount(d, time, count))
			}
		}
	}
	if seen[true] < 1000 || seen[false] < 1000 {
		t.Fatal("too few of a kind", seen)
	}
}

// Two times, one in each interval, between which the oscillator may have counted so.
func mayHaveBeen(d impl.Drift, a, b impl.Ival, count int) bool {
	for from := a.Lo; from <= a.Hi; from++ {
		for to := b.Lo; to <= b.Hi; to++ {
			if impl.MayCount(d, to-from, count) {
				return true
			}
		}
	}
	return false
}

// Broken is just what no two times of the intervals could have done; where no time of the second comes at or behind one of the first there are no rates.
func TestBrokenIsWhatNoTrueTimesCouldDo(t *testing.T) {
	seen := map[bool]int{}
	draw := &lottery{state: 8}
	for _, d := range rightDrifts() {
		for range 400 {
			two := draw.sources(2, 24)
			count := 1 + draw.number(20)
			want := two[1].Hi >= two[0].Lo && !mayHaveBeen(d, two[0], two[1], count)
			checkRateBroken(t, d, two[0], 3, two[1], 3+count, want)
			seen[want]++
		}
	}
	if seen[true] < 1000 || seen[false] < 1000 {
		t.Fatal("too few of a kind", seen)
	}
}

// P11: the rates of a drift carry a count to just what lies Between.
func TestRatesOfADriftCarryToWhatLiesBetween(t *testing.T) {
	counts := []int{0, 1, 2, 3, 999, 1000, impl.MaxAway/2 - 1, impl.MaxAway / 2, impl.MaxAway/2 + 1, impl.MaxAway - 1, impl.MaxAway}
	draw := &lottery{state: 21}
	for range 60 {
		counts = append(counts, draw.number(impl.MaxAway+1))
	}
	for count := range 50 {
		counts = append(counts, count)
	}
	told := 0
	for _, d := range slices.Concat(smallDrifts(25), edgeDrifts(), mixedDrifts()) {
		lo, hi, ok := impl.RateOfDrift(d)
		if ok != impl.DriftOk(d) {
			t.Fatalf("RateOfDrift(%v) is %v", d, ok)
		}
		for _, count := range counts {
			a, between := impl.Between(d, count)
			if between != ok {
				t.Fatalf("Between(%v, %d) is %v", d, count, between)
			}
			checkRateCarry(t, lo, hi, count, pairAnswer{a, ok})
			told++
		}
	}
	if told < 10000 {
		t.Fatal("too few", told)
	}
}

// The rates of two intervals carry their own counts back to what lies between the intervals.
func TestRatesOfTwoIntervalsCarryToWhatLiesBetweenThem(t *testing.T) {
	draw := &lottery{state: 66}
	told := 0
	for range 5000 {
		two := draw.sources(2, 1+draw.number(4000))
		from, count := draw.number(1000), 1+draw.number(impl.MaxAway)
		lo, hi, ok := impl.RateOf(two[0], from, two[1], from+count)
		if ok != (two[1].Hi >= two[0].Lo) {
			t.Fatalf("RateOf(%v, %v) is %v", two[0], two[1], ok)
		}
		if ok {
			checkRateCarry(t, lo, hi, count, carriedTo(max(0, two[1].Lo-two[0].Hi), two[1].Hi-two[0].Lo))
			told++
		}
	}
	if told < 2000 {
		t.Fatal("too few", told)
	}
}

// A whole number is in what is carried just if it is at least count lo and at most count hi.
func TestCarriedByRatesIsWhatLiesBetweenThem(t *testing.T) {
	list := smallFracs(6)
	for _, lo := range list {
		for _, hi := range list {
			for count := range 9 {
				a, ok := impl.RateCarry(lo, hi, count)
				for n := -60; n <= 60; n++ {
					in := lo.Num >= 0 && n*lo.Den >= count*lo.Num && n*hi.Den <= count*hi.Num
					if in != (ok && impl.Holds(a, n)) {
						t.Fatalf("RateCarry(%v, %v, %d): %v, %v; %d is in: %v", lo, hi, count, a, ok, n, in)
					}
				}
			}
		}
	}
}

// What two spans of rates have in common is in both, and is the same whichever is named first.
func TestRatesThatMeetAreInBoth(t *testing.T) {
	draw := &lottery{state: 90}
	seen := map[bool]int{}
	for range 20000 {
		lo, hi, low, high := draw.frac(), draw.frac(), draw.frac(), draw.frac()
		if impl.FracCmp(lo, hi) > 0 {
			lo, hi = hi, lo
		}
		if impl.FracCmp(low, high) > 0 {
			low, high = high, low
		}
		want := wantRatesMeet(lo, hi, low, high)
		checkRatesMeet(t, lo, hi, low, high, want)
		checkRatesMeet(t, low, high, lo, hi, want)
		checkRatesMeet(t, lo, hi, lo, hi, ratesTold(lo, hi))
		seen[want.ok]++
		if !want.ok {
			continue
		}
		for _, in := range []impl.Frac{want.lo, want.hi} {
			if impl.FracCmp(in, lo) < 0 || impl.FracCmp(in, low) < 0 || impl.FracCmp(in, hi) > 0 || impl.FracCmp(in, high) > 0 {
				t.Fatalf("%v is not in both %v to %v and %v to %v", in, lo, hi, low, high)
			}
		}
	}
	if seen[true] < 1000 || seen[false] < 1000 {
		t.Fatal("too few of a kind", seen)
	}
}

// P23: no call writes into what it was given, and one that is made again answers the same.
func TestRatesAnswerTheSameEachTime(t *testing.T) {
	a, b, d := iv(0, 2), iv(10, 12), dr(1, 4)
	lo, hi, low, high := fr(1, 2), fr(3, 2), fr(2, 3), fr(4, 3)
	for range 50 {
		checkFracOf(t, 6, -4, fracAnswer{fr(-3, 2), true})
		checkFracCmp(t, lo, hi, -1)
		checkRateOf(t, a, 0, b, 5, ratesTold(fr(8, 5), fr(12, 5)))
		checkRateOfDrift(t, d, ratesTold(fr(4, 5), fr(4, 3)))
		checkRatesMeet(t, lo, hi, low, high, ratesTold(fr(2, 3), fr(4, 3)))
		checkRateCarry(t, low, high, 10, carriedTo(7, 13))
		checkRateBroken(t, d, a, 0, b, 5, true)
		checkRatesMeet(t, lo, impl.Frac{}, low, high, ratesAnswer{})
	}
	if a != iv(0, 2) || b != iv(10, 12) || d != dr(1, 4) || lo != fr(1, 2) || hi != fr(3, 2) || low != fr(2, 3) || high != fr(4, 3) {
		t.Fatal("an argument was written into", a, b, d, lo, hi, low, high)
	}
}
