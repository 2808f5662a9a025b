package tests

import (
	"math"
	"slices"
	"testing"

	"loop.example/g00072/impl"
)

func checkSources(t *testing.T, list []impl.Ival, want bool) {
	t.Helper()
	if got := impl.SourcesOk(list); got != want {
		t.Fatalf("SourcesOk(%v) is %v", list, got)
	}
}

func checkCover(t *testing.T, list []impl.Ival, at, want int) {
	t.Helper()
	if got := impl.CoverAt(list, at); got != want {
		t.Fatalf("CoverAt(%v, %d) is %d, want %d", list, at, got, want)
	}
}

// Both ways to the hull are asked wherever runs are, as these say what it is.
func checkRuns(t *testing.T, list []impl.Ival, k int, want ...impl.Ival) {
	t.Helper()
	if got := impl.CoverRuns(list, k); !slices.Equal(got, want) {
		t.Fatalf("CoverRuns(%v, %d): got %v, want %v", list, k, got, want)
	}
	var hull pairAnswer
	if n := len(want); n > 0 {
		hull = pairAnswer{iv(want[0].Lo, want[n-1].Hi), true}
	}
	a, ok := impl.HullOf(list, k)
	if got := (pairAnswer{a, ok}); got != hull {
		t.Fatalf("HullOf(%v, %d): got %v, want %v", list, k, got, hull)
	}
	a, ok = impl.HullBySubsets(list, k)
	if got := (pairAnswer{a, ok}); got != hull {
		t.Fatalf("HullBySubsets(%v, %d): got %v, want %v", list, k, got, hull)
	}
}

func checkMost(t *testing.T, list []impl.Ival, want mostAnswer) {
	t.Helper()
	k, run := impl.MostCover(list)
	if got := (mostAnswer{k, run}); got != want {
		t.Fatalf("MostCover(%v): got %v, want %v", list, got, want)
	}
}

func checkFuse(t *testing.T, c fusing, want fuseAnswer) {
	t.Helper()
	a, code := impl.FuseInto(c.own, c.known, c.list, c.f, c.least)
	if got := (fuseAnswer{a, code}); got != want {
		t.Fatalf("FuseInto(%v, %v, %v, %d, %d): got %v, want %v", c.own, c.known, c.list, c.f, c.least, got, want)
	}
}

func checkMissing(t *testing.T, list []impl.Ival, a impl.Ival, want ...int) {
	t.Helper()
	if got := impl.Missing(list, a); !slices.Equal(got, want) {
		t.Fatalf("Missing(%v, %v): got %v, want %v", list, a, got, want)
	}
}

func fused(lo, hi int) fuseAnswer { return fuseAnswer{iv(lo, hi), impl.FuseDone} }

func fuseCode(code int) fuseAnswer { return fuseAnswer{code: code} }

func ivals(list ...impl.Ival) []impl.Ival { return list }

// What every function of the chapter answers of a list that is no list of sources, beside wrong and right numbers.
func checkNoSources(t *testing.T, list []impl.Ival) {
	t.Helper()
	checkSources(t, list, false)
	checkMost(t, list, mostAnswer{})
	for _, n := range []int{math.MinInt, -1, 0, 1, 2, len(list), len(list) + 1, math.MaxInt} {
		checkCover(t, list, n, 0)
		checkRuns(t, list, n)
		for _, known := range []bool{false, true} {
			checkFuse(t, fusing{iv(3, 7), known, list, n, 1}, fuseCode(impl.FuseBad))
			checkFuse(t, fusing{iv(3, 7), known, list, 0, n}, fuseCode(impl.FuseBad))
		}
	}
	for _, a := range append(rightSources(), wrongSources()...) {
		checkMissing(t, list, a)
	}
}

func TestSourcesAtTheirLimits(t *testing.T) {
	checkSources(t, nil, true)
	checkSources(t, ivals(), true)
	for _, a := range rightSources() {
		for n := 1; n <= impl.MaxSources; n++ {
			checkSources(t, slices.Repeat(ivals(a), n), true)
		}
		checkNoSources(t, slices.Repeat(ivals(a), impl.MaxSources+1))
	}
	checkNoSources(t, slices.Repeat(ivals(iv(3, 7)), 1000))
}

// One wrong source at any place of a list of any length.
func TestOneWrongSource(t *testing.T) {
	for _, wrong := range wrongSources() {
		checkNoSources(t, ivals(wrong))
		for _, n := range []int{2, 3, impl.MaxSources, impl.MaxSources + 1} {
			for place := range n {
				list := slices.Repeat(ivals(iv(3, 7)), n)
				list[place] = wrong
				checkNoSources(t, list)
			}
		}
	}
}

func TestCoverAtTheEndsOfSources(t *testing.T) {
	checkCover(t, nil, 0, 0)
	one := ivals(iv(3, 7))
	for at, want := range map[int]int{2: 0, 3: 1, 5: 1, 7: 1, 8: 0, -5: 0, math.MinInt: 0, math.MaxInt: 0} {
		checkCover(t, one, at, want)
		checkCover(t, ivals(iv(3, 7), iv(3, 7), iv(100, 200)), at, 2*want)
	}
	point := ivals(iv(5, 5))
	for at, want := range map[int]int{4: 0, 5: 1, 6: 0} {
		checkCover(t, point, at, want)
		checkCover(t, slices.Repeat(point, impl.MaxSources), at, want*impl.MaxSources)
	}
	touching := ivals(iv(0, 3), iv(3, 7), iv(8, 9))
	for at, want := range map[int]int{-1: 0, 0: 1, 2: 1, 3: 2, 4: 1, 7: 1, 8: 1, 9: 1, 10: 0} {
		checkCover(t, touching, at, want)
	}
	edges := ivals(iv(-far, far), iv(-far, -far), iv(far, far))
	for at, want := range map[int]int{-far - 1: 0, -far: 2, -far + 1: 1, 0: 1, far - 1: 1, far: 2, far + 1: 0, math.MinInt: 0, math.MaxInt: 0} {
		checkCover(t, edges, at, want)
	}
}

type runsCase struct {
	list []impl.Ival
	k    int
	want []impl.Ival
}

// Each in its order and turned round, for runs do not hang on the order of sources.
func checkRunsCases(t *testing.T, cases []runsCase) {
	t.Helper()
	for _, c := range cases {
		checkRuns(t, c.list, c.k, c.want...)
		back := slices.Clone(c.list)
		slices.Reverse(back)
		checkRuns(t, back, c.k, c.want...)
	}
}

func TestRunsSideBySide(t *testing.T) {
	checkRunsCases(t, []runsCase{
		// No number, one number and two numbers between two sources.
		{ivals(iv(0, 3), iv(4, 7)), 1, ivals(iv(0, 7))},
		{ivals(iv(0, 3), iv(5, 7)), 1, ivals(iv(0, 3), iv(5, 7))},
		{ivals(iv(0, 3), iv(6, 7)), 1, ivals(iv(0, 3), iv(6, 7))},
		{ivals(iv(0, 3), iv(4, 7)), 2, nil},
		// They touch by one number.
		{ivals(iv(0, 3), iv(3, 7)), 1, ivals(iv(0, 7))},
		{ivals(iv(0, 3), iv(3, 7)), 2, ivals(iv(3, 3))},
		{ivals(iv(0, 3), iv(2, 7)), 2, ivals(iv(2, 3))},
		// Side by side above a third one: the cover is 2 all along.
		{ivals(iv(0, 7), iv(0, 3), iv(4, 7)), 2, ivals(iv(0, 7))},
		{ivals(iv(-5, 20), iv(0, 3), iv(4, 7)), 2, ivals(iv(0, 7))},
		{ivals(iv(-5, 20), iv(0, 3), iv(5, 7)), 2, ivals(iv(0, 3), iv(5, 7))},
		{ivals(iv(-5, 20), iv(0, 3), iv(5, 7)), 1, ivals(iv(-5, 20))},
		{ivals(iv(-5, 20), iv(0, 3), iv(6, 7), iv(4, 5)), 2, ivals(iv(0, 7))},
		// Two end and two begin, and one that ends while two begin.
		{ivals(iv(0, 3), iv(1, 3), iv(4, 7), iv(4, 6)), 2, ivals(iv(1, 6))},
		{ivals(iv(0, 3), iv(4, 7), iv(4, 6)), 1, ivals(iv(0, 7))},
		{ivals(iv(0, 3), iv(4, 7), iv(4, 6)), 2, ivals(iv(4, 6))},
		{ivals(iv(0, 3), iv(1, 3), iv(4, 7)), 1, ivals(iv(0, 7))},
		// Points in a row, and with one left out.
		{ivals(iv(5, 5), iv(6, 6), iv(7, 7), iv(8, 8)), 1, ivals(iv(5, 8))},
		{ivals(iv(5, 5), iv(6, 6), iv(8, 8)), 1, ivals(iv(5, 6), iv(8, 8))},
		{ivals(iv(-1, -1), iv(0, 0)), 1, ivals(iv(-1, 0))},
		{ivals(iv(-1, -1), iv(1, 1)), 1, ivals(iv(-1, -1), iv(1, 1))},
		// At the edges of what is an interval.
		{ivals(iv(-far, 0), iv(1, far)), 1, ivals(iv(-far, far))},
		{ivals(iv(-far, -1), iv(1, far)), 1, ivals(iv(-far, -1), iv(1, far))},
		{ivals(iv(far, far), iv(far-1, far-1)), 1, ivals(iv(far-1, far))},
		{ivals(iv(far, far), iv(far-2, far-2)), 1, ivals(iv(far-2, far-2), iv(far, far))},
		{ivals(iv(-far, -far), iv(-far+1, -far+1)), 1, ivals(iv(-far, -far+1))},
		{ivals(iv(-far, -far), iv(-far+2, -far+2)), 1, ivals(iv(-far, -far), iv(-far+2, -far+2))},
		{ivals(iv(-far, far), iv(-far, far)), 2, ivals(iv(-far, far))},
		{ivals(iv(-far, far), iv(-far, -far), iv(far, far)), 2, ivals(iv(-far, -far), iv(far, far))},
	})
}

func TestRunsOfEachK(t *testing.T) {
	list := ivals(iv(0, 10), iv(5, 12), iv(30, 40), iv(8, 9))
	want := map[int][]impl.Ival{
		1: ivals(iv(0, 12), iv(30, 40)),
		2: ivals(iv(5, 10)),
		3: ivals(iv(8, 9)),
	}
	for _, k := range []int{math.MinInt, -1, 0, 1, 2, 3, 4, 5, impl.MaxSources, impl.MaxSources + 1, impl.MaxIvals + 1, math.MaxInt} {
		checkRunsCases(t, []runsCase{{list, k, want[k]}})
		checkRuns(t, nil, k)
		checkRuns(t, ivals(), k)
	}
	// All alike: as many as there are hold all, and no more.
	for _, a := range rightSources() {
		for n := 1; n <= impl.MaxSources; n++ {
			alike := slices.Repeat(ivals(a), n)
			for k := -1; k <= n+2; k++ {
				if k >= 1 && k <= n {
					checkRuns(t, alike, k, a)
				} else {
					checkRuns(t, alike, k)
				}
			}
		}
	}
}

func TestRunsOfMaxSources(t *testing.T) {
	var apart, side, within []impl.Ival
	for i := range impl.MaxSources {
		apart = append(apart, iv(10*i, 10*i+8))
		side = append(side, iv(10*i, 10*i+9))
		within = append(within, iv(i, 99-i))
	}
	checkRuns(t, apart, 1, apart...)
	checkRuns(t, apart, 2)
	checkRuns(t, side, 1, iv(0, 10*impl.MaxSources-1))
	checkRuns(t, side, 2)
	for k := 1; k <= impl.MaxSources; k++ {
		checkRuns(t, within, k, iv(k-1, 100-k))
		checkMost(t, within[:k], mostAnswer{k, iv(k-1, 100-k)})
	}
	checkRuns(t, within, impl.MaxSources+1)
}

func TestTheMostCover(t *testing.T) {
	checkMost(t, nil, mostAnswer{})
	checkMost(t, ivals(), mostAnswer{})
	cases := []struct {
		list []impl.Ival
		want mostAnswer
	}{
		{ivals(iv(3, 7)), mostAnswer{1, iv(3, 7)}},
		{ivals(iv(0, 0)), mostAnswer{1, iv(0, 0)}},
		{ivals(iv(0, 10), iv(5, 12), iv(30, 40)), mostAnswer{2, iv(5, 10)}},
		// Several runs of the greatest number: the first counts, also where it is shorter or stands later in the list.
		{ivals(iv(30, 40), iv(0, 3)), mostAnswer{1, iv(0, 3)}},
		{ivals(iv(30, 40), iv(33, 50), iv(0, 10), iv(9, 12)), mostAnswer{2, iv(9, 10)}},
		{ivals(iv(0, 10), iv(0, 1), iv(3, 9)), mostAnswer{2, iv(0, 1)}},
		{ivals(iv(0, 10), iv(0, 1), iv(2, 9)), mostAnswer{2, iv(0, 9)}},
		{ivals(iv(0, 3), iv(5, 7), iv(9, 9)), mostAnswer{1, iv(0, 3)}},
		{ivals(iv(0, 3), iv(4, 7), iv(9, 9)), mostAnswer{1, iv(0, 7)}},
		// A run of fewer ahead of it does not count.
		{ivals(iv(0, 3), iv(2, 5), iv(20, 30), iv(21, 22), iv(22, 40)), mostAnswer{3, iv(22, 22)}},
		{ivals(iv(-far, far), iv(-far, -far), iv(far, far)), mostAnswer{2, iv(-far, -far)}},
		{ivals(iv(-far, far), iv(far, far)), mostAnswer{2, iv(far, far)}},
	}
	for _, c := range cases {
		checkMost(t, c.list, c.want)
		back := slices.Clone(c.list)
		slices.Reverse(back)
		checkMost(t, back, c.want)
	}
	for _, a := range rightSources() {
		for n := 1; n <= impl.MaxSources; n++ {
			checkMost(t, slices.Repeat(ivals(a), n), mostAnswer{n, a})
		}
	}
}

func TestFusionsAtTheirLimits(t *testing.T) {
	bad, few, none, apart := fuseCode(impl.FuseBad), fuseCode(impl.FuseFew), fuseCode(impl.FuseNone), fuseCode(impl.FuseApart)
	list := ivals(iv(0, 10), iv(5, 12), iv(30, 40))
	cases := []struct {
		c    fusing
		want fuseAnswer
	}{
		// f at -1, 0, one below the number of sources and just that number.
		{fusing{list: list, f: -1, least: 1}, bad},
		{fusing{list: list, f: 0, least: 1}, none},
		{fusing{list: list, f: 1, least: 1}, fused(5, 10)},
		{fusing{list: list, f: 2, least: 1}, fused(0, 40)},
		{fusing{list: list, f: 3, least: 1}, few},
		{fusing{list: list, f: 4, least: 1}, few},
		{fusing{list: list, f: math.MaxInt, least: 1}, few},
		{fusing{list: list, f: math.MinInt, least: 1}, bad},
		{fusing{list: list[:2], f: 0, least: 1}, fused(5, 10)},
		{fusing{list: list[:1], f: 0, least: 1}, fused(0, 10)},
		{fusing{list: list[:1], f: 1, least: 1}, few},
		// least at 0, 1, the number of sources and one more.
		{fusing{list: list, f: 1, least: 0}, bad},
		{fusing{list: list, f: 1, least: -1}, bad},
		{fusing{list: list, f: 1, least: 2}, fused(5, 10)},
		{fusing{list: list, f: 1, least: 3}, fused(5, 10)},
		{fusing{list: list, f: 1, least: 4}, few},
		{fusing{list: list, f: 1, least: math.MaxInt}, few},
		{fusing{list: list, f: 1, least: math.MinInt}, bad},
		// own that meets the hull in one number, and that misses it by one.
		{fusing{iv(8, 20), true, list, 1, 2}, fused(8, 10)},
		{fusing{iv(10, 20), true, list, 1, 2}, fused(10, 10)},
		{fusing{iv(11, 20), true, list, 1, 2}, apart},
		{fusing{iv(-9, 5), true, list, 1, 2}, fused(5, 5)},
		{fusing{iv(-9, 4), true, list, 1, 2}, apart},
		{fusing{iv(7, 7), true, list, 1, 2}, fused(7, 7)},
		{fusing{iv(5, 10), true, list, 1, 2}, fused(5, 10)},
		{fusing{iv(4, 11), true, list, 1, 2}, fused(5, 10)},
		{fusing{iv(-far, far), true, list, 1, 2}, fused(5, 10)},
		// The hull is from the first number to the last, with what fewer hold between.
		{fusing{iv(14, 20), true, list, 2, 2}, fused(14, 20)},
		{fusing{iv(40, 50), true, list, 2, 2}, fused(40, 40)},
		{fusing{iv(41, 50), true, list, 2, 2}, apart},
		// No source: too few, whatever is asked for.
		{fusing{f: 0, least: 1}, few},
		{fusing{own: iv(3, 7), known: true, f: 0, least: 1}, few},
		{fusing{f: 0, least: 0}, bad},
		// The edges of what is an interval.
		{fusing{iv(-far, -far), true, ivals(iv(-far, far)), 0, 1}, fused(-far, -far)},
		{fusing{iv(far, far), true, ivals(iv(-far, far)), 0, 1}, fused(far, far)},
		{fusing{iv(far, far), true, ivals(iv(-far, far-1)), 0, 1}, apart},
		{fusing{iv(far, far), true, ivals(iv(far, far), iv(-far, -far)), 1, 2}, fused(far, far)},
		{fusing{iv(-far, far), true, ivals(iv(far, far), iv(-far, -far)), 1, 2}, fused(-far, far)},
		{fusing{iv(far, far), true, ivals(iv(far, far), iv(-far, -far)), 0, 2}, none},
	}
	for _, c := range cases {
		checkFuse(t, c.c, c.want)
	}
	for n := 1; n <= impl.MaxSources+1; n++ {
		alike := slices.Repeat(ivals(iv(3, 7)), n)
		for f := -1; f <= n+1; f++ {
			for least := 0; least <= n+1; least++ {
				want := fused(3, 7)
				switch {
				case n > impl.MaxSources || f < 0 || least < 1:
					want = bad
				case n < least || n <= f:
					want = few
				}
				checkFuse(t, fusing{iv(9, 1), false, alike, f, least}, want)
				checkFuse(t, fusing{iv(-far, far), true, alike, f, least}, want)
			}
		}
	}
}

// own is looked at only where it is known.
func TestOwnThatIsNoInterval(t *testing.T) {
	list := ivals(iv(0, 10), iv(5, 12), iv(30, 40))
	for _, own := range append(wrongSources(), rightSources()...) {
		right := bigIvalOf(own).ok()
		for f, want := range map[int]fuseAnswer{-1: fuseCode(impl.FuseBad), 0: fuseCode(impl.FuseNone), 1: fused(5, 10), 2: fused(0, 40), 3: fuseCode(impl.FuseFew)} {
			checkFuse(t, fusing{own, false, list, f, 1}, want)
			if right {
				continue
			}
			checkFuse(t, fusing{own, true, list, f, 1}, fuseCode(impl.FuseBad))
			checkFuse(t, fusing{own, true, nil, f, 1}, fuseCode(impl.FuseBad))
		}
	}
}

// FuseBad, FuseFew, FuseNone, FuseApart: of two that apply the first is told.
func TestCodesOfFusionsInTheirOrder(t *testing.T) {
	bad, few, none, apart := fuseCode(impl.FuseBad), fuseCode(impl.FuseFew), fuseCode(impl.FuseNone), fuseCode(impl.FuseApart)
	meeting, split := ivals(iv(0, 10), iv(5, 12)), ivals(iv(0, 3), iv(5, 7))
	wrong := ivals(iv(0, 10), iv(12, 5))
	away, crossed := iv(50, 60), iv(60, 50)
	cases := []struct {
		c    fusing
		want fuseAnswer
	}{
		// Each by itself, so that it does apply.
		{fusing{away, true, meeting, 0, 2}, apart},
		{fusing{iv(0, 9), true, split, 0, 2}, none},
		{fusing{iv(0, 9), true, meeting, 0, 3}, few},
		{fusing{iv(0, 9), true, meeting, 2, 2}, few},
		{fusing{iv(0, 9), true, meeting, 0, 2}, fused(5, 9)},
		// FuseNone ahead of FuseApart.
		{fusing{away, true, split, 0, 2}, none},
		// FuseFew ahead of FuseNone, and of FuseApart.
		{fusing{iv(0, 9), true, split, 0, 3}, few},
		{fusing{iv(0, 9), true, split, 2, 2}, few},
		{fusing{away, true, meeting, 0, 3}, few},
		{fusing{away, true, meeting, 2, 2}, few},
		{fusing{away, true, split, 0, 3}, few},
		// FuseBad, for each of its reasons, ahead of FuseFew.
		{fusing{iv(0, 9), true, wrong, 0, 3}, bad},
		{fusing{iv(0, 9), true, wrong, 2, 1}, bad},
		{fusing{iv(0, 9), true, meeting, -1, 3}, bad},
		{fusing{iv(0, 9), true, meeting, 2, 0}, bad},
		{fusing{crossed, true, meeting, 0, 3}, bad},
		{fusing{crossed, true, meeting, 2, 2}, bad},
		// Ahead of FuseNone.
		{fusing{iv(0, 9), true, ivals(iv(0, 3), iv(5, 7), iv(9, 8)), 0, 1}, bad},
		{fusing{iv(0, 9), true, split, -1, 2}, bad},
		{fusing{iv(0, 9), true, split, 0, 0}, bad},
		{fusing{crossed, true, split, 0, 2}, bad},
		// Ahead of FuseApart.
		{fusing{away, true, wrong, 0, 2}, bad},
		{fusing{away, true, meeting, -1, 2}, bad},
		{fusing{away, true, meeting, 0, 0}, bad},
	}
	for _, c := range cases {
		checkFuse(t, c.c, c.want)
		// Where own is not known, it can be neither wrong nor apart.
		if c.c.own != away && c.c.own != crossed && c.want.code != impl.FuseDone {
			checkFuse(t, fusing{c.c.own, false, c.c.list, c.c.f, c.c.least}, c.want)
		}
	}
	checkFuse(t, fusing{away, false, meeting, 0, 2}, fused(5, 10))
	checkFuse(t, fusing{crossed, false, meeting, 0, 2}, fused(5, 10))
	checkFuse(t, fusing{crossed, false, split, 0, 2}, none)
	checkFuse(t, fusing{crossed, false, split, 0, 3}, few)
}

func TestMissingSources(t *testing.T) {
	list := ivals(iv(0, 10), iv(5, 12), iv(30, 40), iv(11, 11))
	checkMissing(t, list, iv(8, 10), 2, 3)
	checkMissing(t, list, iv(8, 11), 2)
	checkMissing(t, list, iv(10, 11), 2)
	checkMissing(t, list, iv(11, 11), 0, 2)
	checkMissing(t, list, iv(12, 30), 0, 3)
	checkMissing(t, list, iv(13, 29), 0, 1, 2, 3)
	checkMissing(t, list, iv(10, 30))
	checkMissing(t, list, iv(41, far), 0, 1, 2, 3)
	checkMissing(t, list, iv(40, far), 0, 1, 3)
	checkMissing(t, list, iv(-far, 0), 1, 2, 3)
	checkMissing(t, list, iv(-far, -1), 0, 1, 2, 3)
	checkMissing(t, list, iv(-far, far))
	checkMissing(t, nil, iv(8, 10))
	checkMissing(t, ivals(iv(-far, -far), iv(far, far)), iv(-far, -far), 1)
	checkMissing(t, ivals(iv(-far, -far), iv(far, far)), iv(-far+1, far-1), 0, 1)
	for _, wrong := range wrongSources() {
		checkMissing(t, list, wrong)
		checkMissing(t, nil, wrong)
	}
	all := []int{0, 1, 2, 3, 4, 5, 6, 7, 8, 9, 10, 11}
	checkMissing(t, slices.Repeat(ivals(iv(3, 7)), impl.MaxSources), iv(8, 9), all...)
	checkMissing(t, slices.Repeat(ivals(iv(3, 7)), impl.MaxSources), iv(7, 9))
}

// Every function of the chapter against the document's words written again, at these numbers.
func checkFuseFunctions(t *testing.T, list []impl.Ival, numbers []int, owns []impl.Ival) {
	t.Helper()
	checkSources(t, list, wantSourcesOk(list))
	checkMost(t, list, wantMostCover(list))
	for _, n := range numbers {
		checkCover(t, list, n, wantCoverAt(list, n))
		checkRuns(t, list, n, wantCoverRuns(list, n)...)
		if want := wantHullBySubsets(list, n); want != wantHullOf(list, n) {
			t.Fatalf("the words are not one: %v, %d: %v", list, n, want)
		}
	}
	for _, own := range owns {
		checkMissing(t, list, own, wantMissing(list, own)...)
		for _, f := range []int{math.MinInt, -1, 0, 1, len(list) - 1, len(list), math.MaxInt} {
			for _, least := range []int{math.MinInt, 0, 1, len(list), len(list) + 1, math.MaxInt} {
				for _, known := range []bool{false, true} {
					c := fusing{own, known, list, f, least}
					checkFuse(t, c, wantFuseInto(c))
				}
			}
		}
	}
}

// Every list of up to three of these, right and wrong, at the edges (P9 and P23).
func TestFusionAgainstTheModel(t *testing.T) {
	pool := ivals(iv(3, 7), iv(5, 5), iv(8, 9), iv(-far, far), iv(-far, -far), iv(far, far), iv(far-1, far-1), iv(-far, 4), iv(6, 5), iv(0, far+1), iv(math.MinInt, math.MaxInt))
	numbers := []int{math.MinInt, -far - 1, -far, -far + 1, -1, 0, 1, 2, 3, 4, 5, 7, 8, 9, 10, far - 1, far, far + 1, math.MaxInt}
	owns := ivals(iv(3, 7), iv(9, 12), iv(10, 20), iv(-far, far), iv(far, far), iv(-far, -far), iv(6, 5), iv(-far-1, 0), iv(math.MaxInt, math.MinInt))
	lists := listsOf(pool, 3)
	if len(lists) != 1+11+121+1331 {
		t.Fatal("lists", len(lists))
	}
	for _, list := range lists {
		checkFuseFunctions(t, list, numbers, owns)
	}
}

// Lists of every length up to one too many, of few numbers, so that ends often meet or lie side by side.
func TestFusionOfAnyLengthAgainstTheModel(t *testing.T) {
	draw := &lottery{state: 9}
	numbers := []int{-1, 0, 1, 2, 3, 4, 5, 6, 7, 8, 9, 10, 11, 12, 13, 14}
	for n := range impl.MaxSources + 2 {
		for _, most := range []int{2, 4, 9, 14, 40} {
			for range 12 {
				checkFuseFunctions(t, draw.sources(n, most), numbers, draw.sources(3, most))
			}
		}
	}
}
