package tests

import (
	"math"
	"math/big"

	"loop.example/g00072/impl"
)

// What the document says of drifts, written again over numbers without bound.

func times(x, y *big.Int) *big.Int { return new(big.Int).Mul(x, y) }

func dr(num, den int) impl.Drift { return impl.Drift{Num: num, Den: den} }

func bigTime(x *big.Int) bool { return inRange(x, 0, impl.MaxTime) }

func wantDriftOk(d impl.Drift) bool {
	num, den := bigOf(d.Num), bigOf(d.Den)
	return inRange(den, 1, impl.MaxDen) && num.Sign() >= 0 && times(bigOf(2), num).Cmp(den) <= 0
}

func slowOf(d impl.Drift) *big.Int { return less(bigOf(d.Den), bigOf(d.Num)) }

func fastOf(d impl.Drift) *big.Int { return plus(bigOf(d.Den), bigOf(d.Num)) }

// The bounds of MayCount alone, for times and counts however great.
func betweenBounds(d impl.Drift, time, count *big.Int) bool {
	counted := times(count, bigOf(d.Den))
	return counted.Cmp(times(time, slowOf(d))) >= 0 && counted.Cmp(times(time, fastOf(d))) <= 0
}

func wantMayCount(d impl.Drift, time, count int) bool {
	return wantDriftOk(d) && bigTime(bigOf(time)) && bigTime(bigOf(count)) && betweenBounds(d, bigOf(time), bigOf(count))
}

// The last number from the middle on, step by step away from it, that is within; within must not come back once it has ended. The steps are doubled and then halved again.
func lastWithin(from *big.Int, sign int, within func(*big.Int) bool) *big.Int {
	at, step := from, bigOf(sign)
	for within(plus(at, step)) {
		at, step = plus(at, step), times(step, bigOf(2))
	}
	for step.Sign() != 0 {
		if within(plus(at, step)) {
			at = plus(at, step)
		}
		step = new(big.Int).Quo(step, bigOf(2))
	}
	return at
}

// A number counted as itself is always between the bounds, so the search starts from there, towards the least (-1) or the greatest (1).
func wantTime(d impl.Drift, count int, sign int) numAnswer {
	if !wantDriftOk(d) || !bigTime(bigOf(count)) {
		return numAnswer{}
	}
	return timeAnswer(lastWithin(bigOf(count), sign, func(time *big.Int) bool { return betweenBounds(d, time, bigOf(count)) }))
}

func wantCount(d impl.Drift, time int, sign int) numAnswer {
	if !wantDriftOk(d) || !bigTime(bigOf(time)) {
		return numAnswer{}
	}
	return timeAnswer(lastWithin(bigOf(time), sign, func(count *big.Int) bool { return betweenBounds(d, bigOf(time), count) }))
}

func timeAnswer(x *big.Int) numAnswer {
	if !bigTime(x) {
		return numAnswer{}
	}
	return numAnswer{int(x.Int64()), true}
}

func wantBetween(d impl.Drift, count int) pairAnswer {
	least, most := wantTime(d, count, -1), wantTime(d, count, 1)
	if !least.ok || !most.ok {
		return pairAnswer{}
	}
	return pairAnswer{iv(least.n, most.n), true}
}

func wantClamp(d impl.Drift, time, want int) numAnswer {
	least, most := wantCount(d, time, -1), wantCount(d, time, 1)
	switch {
	case !least.ok || !most.ok:
		return numAnswer{}
	case want < least.n:
		return least
	case want > most.n:
		return most
	}
	return numAnswer{want, true}
}

type driftAnswer struct {
	d  impl.Drift
	ok bool
}

func wantWorse(a, b impl.Drift) driftAnswer {
	if !wantDriftOk(a) || !wantDriftOk(b) {
		return driftAnswer{}
	}
	if big.NewRat(int64(a.Num), int64(a.Den)).Cmp(big.NewRat(int64(b.Num), int64(b.Den))) < 0 {
		return driftAnswer{b, true}
	}
	return driftAnswer{a, true}
}

// Every drift of these numbers, right and wrong: Den and Num at their limits and one beyond, and at the outermost ints.
func edgeDrifts() []impl.Drift {
	var list []impl.Drift
	for _, den := range []int{math.MinInt, -1, 0, 1, 2, 3, 4, 7, impl.MaxDen - 1, impl.MaxDen, impl.MaxDen + 1, math.MaxInt} {
		for _, num := range []int{math.MinInt, math.MinInt/2 - 1, math.MinInt / 2, -1, 0, 1, 2, den/2 - 1, den / 2, den/2 + 1, den, math.MaxInt/2 + 1, math.MaxInt/2 + 2, math.MaxInt} {
			list = append(list, dr(num, den))
		}
	}
	return list
}

// Every drift that is right, and with it the first that is not, for each small Den.
func smallDrifts(most int) []impl.Drift {
	var list []impl.Drift
	for den := 1; den <= most; den++ {
		for num := 0; num <= den/2+1; num++ {
			list = append(list, dr(num, den))
		}
	}
	return list
}
