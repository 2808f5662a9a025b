package tests

import (
	"math"
	"math/bits"
	"slices"

	"loop.example/g00072/impl"
)

// What the document says of fusion, written again: no turns here, but every end asked by itself, and every choice as the bits of a number.

func wantSourcesOk(list []impl.Ival) bool {
	for _, a := range list {
		if !bigIvalOf(a).ok() {
			return false
		}
	}
	return len(list) <= impl.MaxSources
}

func wantCoverAt(list []impl.Ival, t int) int {
	if !wantSourcesOk(list) {
		return 0
	}
	n := 0
	for _, a := range list {
		if wantHolds(a, t) {
			n++
		}
	}
	return n
}

// The ends of sources that at least k hold, and with a number beside them that fewer hold: there alone a run begins or ends.
func runEnds(list []impl.Ival, k int, end func(impl.Ival) int, beside int) []int {
	var ends []int
	for _, a := range list {
		x := end(a)
		if wantCoverAt(list, x) >= k && wantCoverAt(list, x+beside) < k {
			ends = append(ends, x)
		}
	}
	slices.Sort(ends)
	return slices.Compact(ends)
}

func wantCoverRuns(list []impl.Ival, k int) []impl.Ival {
	if !wantSourcesOk(list) || k < 1 {
		return nil
	}
	from := runEnds(list, k, func(a impl.Ival) int { return a.Lo }, -1)
	to := runEnds(list, k, func(a impl.Ival) int { return a.Hi }, 1)
	var runs []impl.Ival
	for i := range from {
		runs = append(runs, iv(from[i], to[i]))
	}
	return runs
}

func wantHullOf(list []impl.Ival, k int) pairAnswer {
	runs := wantCoverRuns(list, k)
	if len(runs) == 0 {
		return pairAnswer{}
	}
	return pairAnswer{iv(runs[0].Lo, runs[len(runs)-1].Hi), true}
}

func wantHullBySubsets(list []impl.Ival, k int) pairAnswer {
	var hull pairAnswer
	if !wantSourcesOk(list) || k < 1 {
		return hull
	}
	for choice := range uint(1) << len(list) {
		if bits.OnesCount(choice) != k {
			continue
		}
		lo, hi := -far, far
		for i, a := range list {
			if choice>>i&1 == 1 {
				lo, hi = max(lo, a.Lo), min(hi, a.Hi)
			}
		}
		switch {
		case lo > hi:
		case !hull.ok:
			hull = pairAnswer{iv(lo, hi), true}
		default:
			hull.a = iv(min(hull.a.Lo, lo), max(hull.a.Hi, hi))
		}
	}
	return hull
}

type mostAnswer struct {
	k   int
	run impl.Ival
}

func wantMostCover(list []impl.Ival) mostAnswer {
	for k := impl.MaxSources; k >= 1; k-- {
		if runs := wantCoverRuns(list, k); len(runs) > 0 {
			return mostAnswer{k, runs[0]}
		}
	}
	return mostAnswer{}
}

type fuseAnswer struct {
	a    impl.Ival
	code int
}

type fusing struct {
	own   impl.Ival
	known bool
	list  []impl.Ival
	f     int
	least int
}

func wantFuseInto(c fusing) fuseAnswer {
	m := len(c.list)
	switch {
	case !wantSourcesOk(c.list), c.f < 0, c.least < 1, c.known && !bigIvalOf(c.own).ok():
		return fuseAnswer{code: impl.FuseBad}
	case m < c.least, !(m > c.f):
		return fuseAnswer{code: impl.FuseFew}
	}
	hull := wantHullBySubsets(c.list, m-c.f)
	if !hull.ok {
		return fuseAnswer{code: impl.FuseNone}
	}
	if !c.known {
		return fuseAnswer{hull.a, impl.FuseDone}
	}
	both := wantMeet(hull.a, c.own)
	if !both.ok {
		return fuseAnswer{code: impl.FuseApart}
	}
	return fuseAnswer{both.a, impl.FuseDone}
}

func wantMissing(list []impl.Ival, a impl.Ival) []int {
	var places []int
	for i, source := range list {
		if wantSourcesOk(list) && bigIvalOf(a).ok() && !wantMeet(source, a).ok {
			places = append(places, i)
		}
	}
	return places
}

// One source by itself that is right, at every edge of what an interval is.
func rightSources() []impl.Ival {
	return []impl.Ival{iv(3, 7), iv(5, 5), iv(0, 0), iv(-9, -2), iv(-far, far), iv(-far, -far), iv(far, far), iv(-far, 0), iv(0, far), iv(-far+1, far-1)}
}

// One that is wrong: Lo one above Hi, an end one beyond each edge, and the outermost ints.
func wrongSources() []impl.Ival {
	return []impl.Ival{
		iv(6, 5), iv(7, 3), iv(far, far-1), iv(-far+1, -far),
		iv(-far-1, 0), iv(0, far+1), iv(-far-1, far+1), iv(far+1, far+1), iv(-far-1, -far-1),
		iv(math.MinInt, math.MaxInt), iv(math.MaxInt, math.MinInt), iv(math.MinInt, math.MinInt), iv(math.MaxInt, math.MaxInt), iv(math.MinInt, 0), iv(0, math.MaxInt),
	}
}

// Every list of at most most of these, in every order.
func listsOf[T any](pool []T, most int) [][]T {
	lists := [][]T{nil}
	for from := 0; len(lists[from]) < most; from++ {
		for _, a := range pool {
			lists = append(lists, append(slices.Clone(lists[from]), a))
		}
	}
	return lists
}

// Each interval of at least one number from 0 up to below most.
func smallIvals(most int) []impl.Ival {
	return slices.DeleteFunc(ivalsOf(smallNumbers()), func(a impl.Ival) bool { return a.Lo < 0 || a.Lo > a.Hi || a.Hi >= most })
}

type lottery struct{ state uint32 }

func (l *lottery) number(below int) int {
	l.state = l.state*1664525 + 1013904223
	return int(l.state>>8) % below
}

// As many sources as asked for, each with ends below most.
func (l *lottery) sources(n, most int) []impl.Ival {
	var list []impl.Ival
	for range n {
		x, y := l.number(most), l.number(most)
		list = append(list, iv(min(x, y), max(x, y)))
	}
	return list
}
