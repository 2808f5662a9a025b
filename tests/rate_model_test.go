package tests

import (
	"math"
	"math/big"

	"loop.example/g00072/impl"
)

// What the document says of rates, written again over numbers and fractions without bound.

func fr(num, den int) impl.Frac { return impl.Frac{Num: num, Den: den} }

type fracAnswer struct {
	a  impl.Frac
	ok bool
}

type ratesAnswer struct {
	lo, hi impl.Frac
	ok     bool
}

func isFracPart(n int) bool { return inRange(bigOf(n), -impl.MaxFrac, impl.MaxFrac) }

func wantFracOk(a impl.Frac) bool {
	num, den := bigOf(a.Num), bigOf(a.Den)
	if !isFracPart(a.Num) || !inRange(den, 1, impl.MaxFrac) {
		return false
	}
	// The divisor that 0 and Den have in common is Den itself, so that 0 is 0 by 1.
	return new(big.Int).GCD(nil, nil, new(big.Int).Abs(num), den).Cmp(bigOf(1)) == 0
}

// A big fraction is always in lowest terms, with a Den above 0.
func ratOf(num, den *big.Int) *big.Rat { return new(big.Rat).SetFrac(num, den) }

func valueOf(a impl.Frac) *big.Rat { return ratOf(bigOf(a.Num), bigOf(a.Den)) }

func fracOfRat(r *big.Rat) impl.Frac {
	return fr(int(r.Num().Int64()), int(r.Denom().Int64()))
}

func wantFracOf(num, den int) fracAnswer {
	if den == 0 || !isFracPart(num) || !isFracPart(den) {
		return fracAnswer{}
	}
	return fracAnswer{fracOfRat(ratOf(bigOf(num), bigOf(den))), true}
}

func wantFracCmp(a, b impl.Frac) int {
	if !wantFracOk(a) || !wantFracOk(b) {
		return 0
	}
	return valueOf(a).Cmp(valueOf(b))
}

func wantRateOf(a impl.Ival, ca int, b impl.Ival, cb int) ratesAnswer {
	x, y := bigIvalOf(a), bigIvalOf(b)
	if !x.ok() || !y.ok() || !(0 <= ca && ca < cb && cb <= impl.MaxTime) || y.hi.Cmp(x.lo) < 0 {
		return ratesAnswer{}
	}
	counts := less(bigOf(cb), bigOf(ca))
	lo := ratOf(greaterOf(bigOf(0), less(y.lo, x.hi)), counts)
	hi := ratOf(less(y.hi, x.lo), counts)
	return ratesAnswer{fracOfRat(lo), fracOfRat(hi), true}
}

func wantRateOfDrift(d impl.Drift) ratesAnswer {
	if !wantDriftOk(d) {
		return ratesAnswer{}
	}
	lo, hi := ratOf(bigOf(d.Den), fastOf(d)), ratOf(bigOf(d.Den), slowOf(d))
	return ratesAnswer{fracOfRat(lo), fracOfRat(hi), true}
}

func wantRatesMeet(lo, hi, low, high impl.Frac) ratesAnswer {
	if !wantFracOk(lo) || !wantFracOk(hi) || !wantFracOk(low) || !wantFracOk(high) {
		return ratesAnswer{}
	}
	if wantFracCmp(low, lo) > 0 {
		lo = low
	}
	if wantFracCmp(high, hi) < 0 {
		hi = high
	}
	if wantFracCmp(lo, hi) > 0 {
		return ratesAnswer{}
	}
	return ratesAnswer{lo, hi, true}
}

// Div leaves a rest of 0 or above, so it goes down where what it divides by is above 0.
func wholeAtMost(r *big.Rat) *big.Int { return new(big.Int).Div(r.Num(), r.Denom()) }

func wholeAtLeast(r *big.Rat) *big.Int {
	return new(big.Int).Neg(wholeAtMost(new(big.Rat).Neg(r)))
}

func wantRateCarry(lo, hi impl.Frac, count int) pairAnswer {
	if !wantFracOk(lo) || !wantFracOk(hi) || lo.Num < 0 || !inRange(bigOf(count), 0, impl.MaxAway) {
		return pairAnswer{}
	}
	by := new(big.Rat).SetInt64(int64(count))
	least := wholeAtLeast(new(big.Rat).Mul(by, valueOf(lo)))
	most := wholeAtMost(new(big.Rat).Mul(by, valueOf(hi)))
	return answerOf(bigIval{least, most}, true)
}

func wantRateBroken(d impl.Drift, a impl.Ival, ca int, b impl.Ival, cb int) bool {
	been, may := wantRateOf(a, ca, b, cb), wantRateOfDrift(d)
	return been.ok && may.ok && !wantRatesMeet(been.lo, been.hi, may.lo, may.hi).ok
}

// At each limit and one beyond it, at small numbers, and at the outermost ints.
func edgeParts() []int {
	return []int{
		math.MinInt, math.MinInt + 1,
		-impl.MaxFrac - 1, -impl.MaxFrac, -impl.MaxFrac + 1,
		-6, -4, -3, -2, -1, 0, 1, 2, 3, 4, 6,
		impl.MaxFrac / 2, impl.MaxFrac - 1, impl.MaxFrac, impl.MaxFrac + 1,
		math.MaxInt - 1, math.MaxInt,
	}
}

// Every two of these as Num and Den, so also those that are no fractions.
func edgeFracs() []impl.Frac {
	var list []impl.Frac
	for _, num := range edgeParts() {
		for _, den := range edgeParts() {
			list = append(list, fr(num, den))
		}
	}
	return list
}

// Fractions whose products with each other leave 64 bits by far, and that lie next to each other: their products differ by 1 or 2.
func closeFracs() []impl.Frac {
	var list []impl.Frac
	for back := range 6 {
		n := impl.MaxFrac - back
		list = append(list, fr(n-1, n), fr(1-n, n), fr(n, n-1), fr(-n, n-1), fr(1, n), fr(-1, n))
	}
	// Each two neighbours of these row on row have products that differ by 1; their parts grow up to the limit.
	x, y := fr(0, 1), fr(1, 1)
	for y.Den <= impl.MaxFrac {
		if y.Den > impl.MaxFrac/1000 {
			list = append(list, y, fr(-y.Num, y.Den), fr(y.Den, y.Num), fr(-y.Den, y.Num))
		}
		x, y = y, fr(x.Num+y.Num, x.Den+y.Den)
	}
	return list
}

func smallFracs(most int) []impl.Frac {
	var list []impl.Frac
	for den := 1; den <= most; den++ {
		for num := -most; num <= most; num++ {
			if a := fr(num, den); wantFracOk(a) {
				list = append(list, a)
			}
		}
	}
	return list
}

// What can be no fraction: each part beyond its limits, or parts that are not in lowest terms.
func wrongFracs() []impl.Frac {
	return []impl.Frac{
		{}, fr(1, 0), fr(-1, 0), fr(0, -1), fr(1, -1), fr(-1, -2), fr(3, -2),
		fr(0, 2), fr(0, impl.MaxFrac), fr(2, 2), fr(-2, 4), fr(6, 4), fr(impl.MaxFrac, impl.MaxFrac), fr(impl.MaxFrac-2, impl.MaxFrac),
		fr(1, impl.MaxFrac+1), fr(-1, impl.MaxFrac+1), fr(impl.MaxFrac+1, 1), fr(-impl.MaxFrac-1, 1), fr(impl.MaxFrac, impl.MaxFrac+1), fr(impl.MaxFrac+1, impl.MaxFrac),
		fr(math.MaxInt, 1), fr(math.MinInt, 1), fr(1, math.MaxInt), fr(1, math.MinInt), fr(math.MinInt, math.MinInt), fr(math.MinInt, -1), fr(math.MaxInt, math.MaxInt-1),
	}
}

func rightFracs() []impl.Frac {
	list := []impl.Frac{
		fr(0, 1), fr(1, 1), fr(-1, 1), fr(1, 2), fr(-1, 2), fr(2, 3), fr(-2, 3), fr(3, 2), fr(7, 1),
		fr(impl.MaxFrac, 1), fr(-impl.MaxFrac, 1), fr(impl.MaxFrac-1, 1), fr(1, impl.MaxFrac), fr(-1, impl.MaxFrac), fr(1, impl.MaxFrac-1),
		fr(impl.MaxFrac-1, impl.MaxFrac), fr(1-impl.MaxFrac, impl.MaxFrac), fr(impl.MaxFrac, impl.MaxFrac-1), fr(-impl.MaxFrac, impl.MaxFrac-1),
		fr(far, 1), fr(far+1, 1), fr(far, 3),
	}
	return list
}
