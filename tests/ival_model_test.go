package tests

import (
	"math"
	"math/big"

	"loop.example/g00072/impl"
)

// What the document says of intervals, written again over numbers without bound, so that no sum here can wrap round unseen.

type bigIval struct {
	lo *big.Int
	hi *big.Int
}

func bigOf(x int) *big.Int { return big.NewInt(int64(x)) }

func bigIvalOf(a impl.Ival) bigIval { return bigIval{bigOf(a.Lo), bigOf(a.Hi)} }

func plus(x, y *big.Int) *big.Int { return new(big.Int).Add(x, y) }

func less(x, y *big.Int) *big.Int { return new(big.Int).Sub(x, y) }

func lesserOf(x, y *big.Int) *big.Int {
	if x.Cmp(y) <= 0 {
		return x
	}
	return y
}

func greaterOf(x, y *big.Int) *big.Int {
	if x.Cmp(y) >= 0 {
		return x
	}
	return y
}

func inRange(x *big.Int, low, high int) bool {
	return bigOf(low).Cmp(x) <= 0 && x.Cmp(bigOf(high)) <= 0
}

func (a bigIval) ok() bool {
	return a.lo.Cmp(a.hi) <= 0 && inRange(a.lo, -impl.MaxTime, impl.MaxTime) && inRange(a.hi, -impl.MaxTime, impl.MaxTime)
}

func (a bigIval) holds(x *big.Int) bool { return a.lo.Cmp(x) <= 0 && x.Cmp(a.hi) <= 0 }

type pairAnswer struct {
	a  impl.Ival
	ok bool
}

// The interval, where it is one and the arguments were right; else the zero value and false.
func answerOf(a bigIval, right bool) pairAnswer {
	if !right || !a.ok() {
		return pairAnswer{}
	}
	return pairAnswer{impl.Ival{Lo: int(a.lo.Int64()), Hi: int(a.hi.Int64())}, true}
}

func wantShift(a impl.Ival, by int) pairAnswer {
	x, b := bigIvalOf(a), bigOf(by)
	return answerOf(bigIval{plus(x.lo, b), plus(x.hi, b)}, x.ok() && inRange(b, -2*impl.MaxTime, 2*impl.MaxTime))
}

func wantSpread(a impl.Ival, low, high int) pairAnswer {
	x, l, h := bigIvalOf(a), bigOf(low), bigOf(high)
	right := x.ok() && inRange(l, 0, 2*impl.MaxTime) && inRange(h, 0, 2*impl.MaxTime)
	return answerOf(bigIval{less(x.lo, l), plus(x.hi, h)}, right)
}

func wantMeet(a, b impl.Ival) pairAnswer {
	x, y := bigIvalOf(a), bigIvalOf(b)
	return answerOf(bigIval{greaterOf(x.lo, y.lo), lesserOf(x.hi, y.hi)}, x.ok() && y.ok())
}

func wantJoin(a, b impl.Ival) pairAnswer {
	x, y := bigIvalOf(a), bigIvalOf(b)
	return answerOf(bigIval{lesserOf(x.lo, y.lo), greaterOf(x.hi, y.hi)}, x.ok() && y.ok())
}

func wantPlus(a, b impl.Ival) pairAnswer {
	x, y := bigIvalOf(a), bigIvalOf(b)
	return answerOf(bigIval{plus(x.lo, y.lo), plus(x.hi, y.hi)}, x.ok() && y.ok())
}

func wantLess(a, b impl.Ival) pairAnswer {
	x, y := bigIvalOf(a), bigIvalOf(b)
	return answerOf(bigIval{less(x.lo, y.hi), less(x.hi, y.lo)}, x.ok() && y.ok())
}

func wantWithin(a, b impl.Ival) bool {
	x, y := bigIvalOf(a), bigIvalOf(b)
	return x.ok() && y.ok() && y.holds(x.lo) && y.holds(x.hi)
}

func wantApart(a, b impl.Ival) int {
	x, y := bigIvalOf(a), bigIvalOf(b)
	switch {
	case !x.ok() || !y.ok():
		return -1
	case x.hi.Cmp(y.lo) < 0:
		return int(less(y.lo, x.hi).Int64())
	case y.hi.Cmp(x.lo) < 0:
		return int(less(x.lo, y.hi).Int64())
	}
	return 0
}

type numAnswer struct {
	n  int
	ok bool
}

func wantWide(a impl.Ival) int {
	x := bigIvalOf(a)
	if !x.ok() {
		return -1
	}
	return int(less(x.hi, x.lo).Int64())
}

func wantHolds(a impl.Ival, t int) bool {
	x := bigIvalOf(a)
	return x.ok() && x.holds(bigOf(t))
}

func wantMiddle(a impl.Ival) numAnswer {
	x := bigIvalOf(a)
	if !x.ok() {
		return numAnswer{}
	}
	// Div leaves a rest of 0 or 1, so it goes down.
	return numAnswer{int(new(big.Int).Div(plus(x.lo, x.hi), bigOf(2)).Int64()), true}
}

func wantNearest(a impl.Ival, t int) numAnswer {
	x := bigIvalOf(a)
	switch {
	case !x.ok():
		return numAnswer{}
	case t < a.Lo:
		return numAnswer{a.Lo, true}
	case t > a.Hi:
		return numAnswer{a.Hi, true}
	}
	return numAnswer{t, true}
}

// Numbers at, and one beyond, each limit that the chapter names, and those that a sum must not reach.
func edgeNumbers() []int {
	return []int{
		math.MinInt, math.MinInt + 1,
		-2*impl.MaxTime - 1, -2 * impl.MaxTime, -2*impl.MaxTime + 1,
		-impl.MaxTime - 1, -impl.MaxTime, -impl.MaxTime + 1,
		-2, -1, 0, 1, 2,
		impl.MaxTime - 1, impl.MaxTime, impl.MaxTime + 1,
		2*impl.MaxTime - 1, 2 * impl.MaxTime, 2*impl.MaxTime + 1,
		math.MaxInt - 1, math.MaxInt,
	}
}

func smallNumbers() []int { return []int{-5, -4, -3, -2, -1, 0, 1, 2, 3, 4, 5} }

// Every pair of these numbers as ends, so also those with Lo above Hi.
func ivalsOf(numbers []int) []impl.Ival {
	var list []impl.Ival
	for _, lo := range numbers {
		for _, hi := range numbers {
			list = append(list, impl.Ival{Lo: lo, Hi: hi})
		}
	}
	return list
}
