package tests

import (
	"math"

	"loop.example/g00072/impl"
)

// What the document says of the interval of a node, written again over numbers without bound.

func loc(lo, hi, at int) impl.Local {
	return impl.Local{Known: true, Bound: iv(lo, hi), At: at}
}

type carryAnswer struct {
	a    impl.Ival
	code int
}

type localAnswer struct {
	l    impl.Local
	code int
}

type learnAnswer struct {
	l  impl.Local
	ok bool
}

func wantLocalOk(l impl.Local) bool {
	if l.Known {
		return bigIvalOf(l.Bound).ok() && bigTime(bigOf(l.At))
	}
	return l.Bound.Lo == 0 && l.Bound.Hi == 0 && l.At == 0
}

func wantCarryable(l impl.Local, d impl.Drift, count int) bool {
	return wantLocalOk(l) && wantDriftOk(d) && bigTime(bigOf(count))
}

func wantCarryOn(l impl.Local, d impl.Drift, count int) carryAnswer {
	if !wantCarryable(l, d, count) {
		return carryAnswer{code: impl.LocBad}
	}
	if !l.Known {
		return carryAnswer{code: impl.LocUnknown}
	}
	if less(bigOf(count), bigOf(l.At)).Sign() < 0 {
		return carryAnswer{code: impl.LocBack}
	}
	gone := wantBetween(d, count-l.At)
	if !gone.ok {
		return carryAnswer{code: impl.LocOver}
	}
	now := wantPlus(l.Bound, gone.a)
	if !now.ok {
		return carryAnswer{code: impl.LocOver}
	}
	return carryAnswer{now.a, impl.LocWell}
}

func wantRebase(l impl.Local, d impl.Drift, count int) localAnswer {
	now := wantCarryOn(l, d, count)
	if now.code != impl.LocWell {
		return localAnswer{code: now.code}
	}
	return localAnswer{loc(now.a.Lo, now.a.Hi, count), impl.LocWell}
}

func wantLearn(bound impl.Ival, count int) learnAnswer {
	if !bigIvalOf(bound).ok() || !bigTime(bigOf(count)) {
		return learnAnswer{}
	}
	return learnAnswer{loc(bound.Lo, bound.Hi, count), true}
}

func wantNarrow(l impl.Local, d impl.Drift, count int, with impl.Ival) localAnswer {
	if !wantCarryable(l, d, count) || !bigIvalOf(with).ok() {
		return localAnswer{code: impl.LocBad}
	}
	if !l.Known {
		return localAnswer{loc(with.Lo, with.Hi, count), impl.LocWell}
	}
	now := wantCarryOn(l, d, count)
	if now.code != impl.LocWell {
		return localAnswer{code: now.code}
	}
	both := wantMeet(now.a, with)
	if !both.ok {
		return localAnswer{code: impl.LocEmpty}
	}
	return localAnswer{loc(both.a.Lo, both.a.Hi, count), impl.LocWell}
}

func wantWidthAt(l impl.Local, d impl.Drift, count int) int {
	now := wantCarryOn(l, d, count)
	if now.code != impl.LocWell {
		return -1
	}
	return wantWide(now.a)
}

// The widths at At and each number of counts up to MaxAhead behind it, as WidthAt tells them; it is held against the model by itself.
func widthsAhead(l impl.Local, d impl.Drift) []int {
	var widths []int
	for n := 0; n <= impl.MaxAhead; n++ {
		widths = append(widths, impl.WidthAt(l, d, l.At+n))
	}
	return widths
}

func wantKnownFor(l impl.Local, widths []int, most int) numAnswer {
	want := numAnswer{}
	for n, wide := range widths {
		if wantLocalOk(l) && l.Known && wide >= 0 && wide <= most {
			want = numAnswer{n, true}
		}
	}
	return want
}

// The drifts at the ends of what is right, one beyond each end, and some between.
func mixedDrifts() []impl.Drift {
	return []impl.Drift{
		dr(0, 1), dr(0, impl.MaxDen), dr(1, 2), dr(1, 4), dr(2, 7), dr(1, impl.MaxDen), dr(impl.MaxDen/2, impl.MaxDen),
		dr(1, 1), dr(3, 4), dr(0, 0), dr(-1, 4), dr(0, -1), dr(0, impl.MaxDen+1), dr(impl.MaxDen/2+1, impl.MaxDen),
		dr(math.MaxInt, math.MaxInt), dr(math.MinInt, math.MinInt),
	}
}

// Right and wrong: Known and not, Bound and At at their limits and one beyond each, and at the outermost ints.
func edgeLocals() []impl.Local {
	var list []impl.Local
	numbers := []int{math.MinInt, -far - 1, -far, -1, 0, 1, far - 1, far, far + 1, math.MaxInt}
	for _, bound := range ivalsOf(numbers) {
		for _, at := range []int{math.MinInt, -1, 0, 1, far - 1, far, far + 1, math.MaxInt} {
			list = append(list, impl.Local{Known: true, Bound: bound, At: at}, impl.Local{Bound: bound, At: at})
		}
	}
	return list
}
