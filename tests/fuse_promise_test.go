package tests

import (
	"math"
	"slices"
	"testing"

	"loop.example/g00072/impl"
)

func heldBy(list []impl.Ival, x int) int {
	n := 0
	for _, a := range list {
		if a.Lo <= x && x <= a.Hi {
			n++
		}
	}
	return n
}

// The numbers from low to high that at least k hold, one by one.
func numbersHeld(list []impl.Ival, k, low, high int) []int {
	var numbers []int
	for x := low; x <= high; x++ {
		if heldBy(list, x) >= k {
			numbers = append(numbers, x)
		}
	}
	return numbers
}

// A fusion of which at most f sources do not hold the truth, and own does: it must be done, hold the truth and be no wider.
func checkTrueFusion(t *testing.T, c fusing, truth int) {
	t.Helper()
	a, code := impl.FuseInto(c.own, c.known, c.list, c.f, c.least)
	if code != impl.FuseDone || !impl.Holds(a, truth) {
		t.Fatalf("FuseInto(%v, %v, %v, %d, %d): %v, %d, and it is %d", c.own, c.known, c.list, c.f, c.least, a, code, truth)
	}
	if c.known && (!impl.Within(a, c.own) || impl.Wide(a) > impl.Wide(c.own)) {
		t.Fatalf("FuseInto(%v, %v, %v, %d, %d): %v is wider than what was known", c.own, c.known, c.list, c.f, c.least, a)
	}
}

// P9, of all small sources: whatever number is the truth, and however many may lie beside those that do.
func TestSmallFusionsHoldTrueTime(t *testing.T) {
	pool := smallIvals(4)
	held := 0
	for _, list := range listsOf(pool, 3) {
		for truth := range 4 {
			lies := len(list) - heldBy(list, truth)
			for f := lies; f < len(list); f++ {
				for least := 1; least <= len(list); least++ {
					checkTrueFusion(t, fusing{list: list, f: f, least: least}, truth)
					for _, own := range pool {
						if heldBy(ivals(own), truth) == 1 {
							checkTrueFusion(t, fusing{own, true, list, f, least}, truth)
							held++
						}
					}
				}
			}
		}
	}
	if held < 10000 {
		t.Fatal("fusions into what was known", held)
	}
}

// An interval that has the truth: at its ends, between them, or as its only number, and never beyond what is an interval.
func (l *lottery) around(truth, most int) impl.Ival {
	below, above := l.number(most), l.number(most)
	switch l.number(5) {
	case 0:
		below = 0
	case 1:
		above = 0
	case 2:
		below, above = 0, 0
	}
	return iv(max(truth-below, -far), min(truth+above, far))
}

// One that has it not, often by one number alone.
func (l *lottery) beside(truth, most int) impl.Ival {
	gap, wide := 1+l.number(most)*l.number(2), l.number(most)
	if truth+gap <= far && (l.number(2) == 0 || truth-gap < -far) {
		return iv(truth+gap, min(truth+gap+wide, far))
	}
	return iv(max(truth-gap-wide, -far), truth-gap)
}

// P9, of sources of every number and every number of liars, who may agree with each other, stand anywhere in the list, or say what is true after all.
func TestFusionsWithLiarsHoldTrueTime(t *testing.T) {
	draw := &lottery{state: 27}
	for _, truth := range []int{0, 7, -3, 123456, far - 1, far, -far, -far + 1} {
		for m := 1; m <= impl.MaxSources; m++ {
			for f := range m {
				for range 25 {
					most := []int{2, 5, 30, 100000}[draw.number(4)]
					var list []impl.Ival
					for range m {
						list = append(list, draw.around(truth, most))
					}
					agreed := draw.beside(truth, most)
					for range f {
						lie := agreed
						if draw.number(2) == 0 {
							lie = draw.beside(truth, most)
						}
						list[draw.number(m)] = lie
					}
					least := 1 + draw.number(m)
					checkTrueFusion(t, fusing{agreed, false, list, f, least}, truth)
					checkTrueFusion(t, fusing{draw.around(truth, most), true, list, f, least}, truth)
					checkTrueFusion(t, fusing{iv(truth, truth), true, list, f, least}, truth)
				}
			}
		}
	}
}

// What is known goes on from fusion to fusion: it never grows wider, and has true time each time.
func TestFusionAfterFusionHoldsTrueTime(t *testing.T) {
	draw := &lottery{state: 5}
	for range 400 {
		truth := draw.number(2000) - 1000
		own := draw.around(truth, 500)
		for range 10 {
			m := 1 + draw.number(impl.MaxSources)
			f := draw.number(m)
			var list []impl.Ival
			for i := range m {
				if i < f {
					list = append(list, draw.beside(truth, 300))
				} else {
					list = append(list, draw.around(truth, 300))
				}
			}
			checkTrueFusion(t, fusing{own, true, list, f, 1}, truth)
			own, _ = impl.FuseInto(own, true, list, f, 1)
			for _, place := range impl.Missing(list, own) {
				if place >= f {
					t.Fatalf("%v of %v, which has %d, is missing by %v", list[place], list, truth, own)
				}
			}
		}
	}
}

// What a fusion must be, by going through all numbers: done just if some are held by m less f, and the hull of these meets what is known.
func fusedByNumbers(own impl.Ival, known bool, list []impl.Ival, f, low, high int) fuseAnswer {
	held := numbersHeld(list, len(list)-f, low, high)
	if len(held) == 0 {
		return fuseCode(impl.FuseNone)
	}
	first, last := held[0], held[len(held)-1]
	var both []int
	for x := first; x <= last; x++ {
		if !known || own.Lo <= x && x <= own.Hi {
			both = append(both, x)
		}
	}
	if len(both) == 0 {
		return fuseCode(impl.FuseApart)
	}
	return fused(both[0], both[len(both)-1])
}

// P9: a fusion is done just if the hull is there and meets what is known, and then it is just that meet.
func TestAFusionIsDoneJustWhereItMeets(t *testing.T) {
	pool := smallIvals(5)
	codes := map[int]int{}
	check := func(own impl.Ival, known bool, list []impl.Ival, f int) {
		t.Helper()
		want := fusedByNumbers(own, known, list, f, -1, 6)
		checkFuse(t, fusing{own, known, list, f, 1}, want)
		codes[want.code]++
	}
	for _, list := range listsOf(pool, 3) {
		for f := range len(list) {
			check(iv(4, 0), false, list, f)
			for _, own := range pool {
				check(own, true, list, f)
			}
		}
	}
	for _, code := range []int{impl.FuseDone, impl.FuseNone, impl.FuseApart} {
		if codes[code] < 1000 {
			t.Fatal("too few of a code", codes)
		}
	}
}

func TestLongFusionsAreDoneJustWhereTheyMeet(t *testing.T) {
	draw := &lottery{state: 77}
	for m := 1; m <= impl.MaxSources; m++ {
		for range 200 {
			list := draw.sources(m, 30)
			own := draw.sources(1, 30)[0]
			for f := range m {
				for _, known := range []bool{false, true} {
					checkFuse(t, fusing{own, known, list, f, m}, fusedByNumbers(own, known, list, f, -1, 30))
				}
			}
		}
	}
}

// P9: both ways to the hull tell the same; its ends are held by as many as asked for, and no number beside it is.
func checkHulls(t *testing.T, list []impl.Ival, k, low, high int) {
	t.Helper()
	a, ok := impl.HullOf(list, k)
	b, also := impl.HullBySubsets(list, k)
	if a != b || ok != also {
		t.Fatalf("%v by %d: HullOf %v, %v; HullBySubsets %v, %v", list, k, a, ok, b, also)
	}
	held := numbersHeld(list, k, low, high)
	switch {
	case ok != (len(held) > 0):
		t.Fatalf("%v by %d: %v, %v, and %d numbers are held", list, k, a, ok, len(held))
	case ok && (held[0] != a.Lo || held[len(held)-1] != a.Hi):
		t.Fatalf("%v by %d: %v, and held are %v", list, k, a, held)
	case !ok && a != (impl.Ival{}):
		t.Fatalf("%v by %d: %v beside a false", list, k, a)
	}
}

// Each run is held by as many as asked for, number by number, by fewer just beside it, and no number beside the runs is held by as many.
func checkRunsByNumbers(t *testing.T, list []impl.Ival, k, low, high int) {
	t.Helper()
	runs := impl.CoverRuns(list, k)
	for i, run := range runs {
		if !impl.IvalOk(run) || impl.CoverAt(list, run.Lo-1) >= k || impl.CoverAt(list, run.Hi+1) >= k {
			t.Fatalf("%v by %d: %v is no whole run", list, k, run)
		}
		if i > 0 && run.Lo < runs[i-1].Hi+2 {
			t.Fatalf("%v by %d: no number lies between %v and %v", list, k, runs[i-1], run)
		}
	}
	for x := low; x <= high; x++ {
		if in := heldBy(runs, x) == 1; in != (heldBy(list, x) >= k) || impl.CoverAt(list, x) != heldBy(list, x) {
			t.Fatalf("%v by %d: %v; that %d is in it is %v", list, k, runs, x, in)
		}
	}
}

// The greatest number of sources that hold one number, and the first run of it.
func checkMostByNumbers(t *testing.T, list []impl.Ival, low, high int) {
	t.Helper()
	k, run := impl.MostCover(list)
	most := 0
	for x := low; x <= high; x++ {
		most = max(most, heldBy(list, x))
	}
	if k != most || len(impl.CoverRuns(list, k+1)) != 0 {
		t.Fatalf("MostCover(%v): %d, %v, and the most is %d", list, k, run, most)
	}
	if runs := impl.CoverRuns(list, k); k > 0 && run != runs[0] || k == 0 && run != (impl.Ival{}) {
		t.Fatalf("MostCover(%v): %d, %v of %v", list, k, run, runs)
	}
}

func TestRunsAndHullsNumberByNumber(t *testing.T) {
	for _, list := range listsOf(smallIvals(5), 3) {
		checkMostByNumbers(t, list, -1, 6)
		for k := 1; k <= len(list)+1; k++ {
			checkHulls(t, list, k, -1, 6)
			checkRunsByNumbers(t, list, k, -1, 6)
		}
	}
	draw := &lottery{state: 3}
	for m := range impl.MaxSources + 1 {
		for _, most := range []int{3, 8, 20, 50} {
			for range 40 {
				list := draw.sources(m, most)
				checkMostByNumbers(t, list, -1, most)
				for k := 1; k <= m+1; k++ {
					checkHulls(t, list, k, -1, most)
					checkRunsByNumbers(t, list, k, -1, most)
				}
			}
		}
	}
}

// The same far out: small sources are shifted to the edges of what is an interval, and everything with them.
func TestFusionsAreTheSameFarOut(t *testing.T) {
	const most = 12
	draw := &lottery{state: 11}
	for range 600 {
		m := 1 + draw.number(impl.MaxSources)
		near := draw.sources(m+1, most)
		for _, by := range []int{-far, far - most + 1} {
			var out []impl.Ival
			for _, a := range near {
				out = append(out, iv(a.Lo+by, a.Hi+by))
			}
			for k := 1; k <= m; k++ {
				var runs []impl.Ival
				for _, run := range impl.CoverRuns(near[:m], k) {
					runs = append(runs, iv(run.Lo+by, run.Hi+by))
				}
				checkRuns(t, out[:m], k, runs...)
				checkRunsByNumbers(t, out[:m], k, by-1, by+most)
				want := fusedByNumbers(near[m], true, near[:m], m-k, -1, most)
				if want.code == impl.FuseDone {
					want.a = iv(want.a.Lo+by, want.a.Hi+by)
				}
				checkFuse(t, fusing{out[m], true, out[:m], m - k, 1}, want)
			}
		}
	}
}

// The order in which sources stand changes nothing that is told of them all.
func TestTheOrderOfSourcesIsNothing(t *testing.T) {
	draw := &lottery{state: 31}
	for m := 1; m <= impl.MaxSources; m++ {
		for range 60 {
			list := draw.sources(m, 25)
			turned := slices.Clone(list)
			for i := range turned {
				j := draw.number(i + 1)
				turned[i], turned[j] = turned[j], turned[i]
			}
			k, run := impl.MostCover(list)
			checkMost(t, turned, mostAnswer{k, run})
			for k := 1; k <= m; k++ {
				checkRuns(t, turned, k, impl.CoverRuns(list, k)...)
			}
		}
	}
}

// The first n of room are the list; what stands behind them is none of it.
type roomyList struct {
	room []impl.Ival
	n    int
}

// Right and wrong sources, up to more than there may be.
func roomyLists() []roomyList {
	kinds := ivals(iv(3, 7), iv(8, 9), iv(0, 20), iv(30, 40), iv(-far, far), iv(6, 5), iv(math.MinInt, math.MaxInt))
	var all []roomyList
	for n := range impl.MaxSources + 3 {
		for first := range kinds {
			var room []impl.Ival
			for i := range n {
				room = append(room, kinds[(first+i*(n%3))%len(kinds)])
			}
			// The last kinds are wrong, so lists of the first ones alone are there too.
			if first < 4 {
				for i := range room {
					room[i] = kinds[(first+i)%5]
				}
			}
			room = append(room, iv(-7, -8), iv(-9, -10))
			all = append(all, roomyList{room, n})
		}
	}
	return all
}

// P23: neither a list nor the spare room behind it is written into, and a call that is made again answers the same.
func TestSourcesAreNotChanged(t *testing.T) {
	numbers := []int{math.MinInt, -1, 0, 1, 2, 3, 12, 13, math.MaxInt}
	owns := ivals(iv(3, 7), iv(25, 26), iv(6, 5), iv(math.MaxInt, math.MinInt))
	for _, r := range roomyLists() {
		kept := slices.Clone(r.room)
		checkFuseFunctions(t, r.room[:r.n], numbers, owns)
		checkFuseFunctions(t, r.room[:r.n], numbers, owns)
		if !slices.Equal(r.room, kept) {
			t.Fatalf("%d sources were written into: %v", r.n, r.room)
		}
	}
}

// What is answered has memory of its own: writing into it, or behind it, is seen neither in an argument nor in another answer.
func TestFusionAnswersShareNothing(t *testing.T) {
	shared := 0
	for _, r := range roomyLists() {
		list, kept := r.room[:r.n], slices.Clone(r.room)
		for k := 1; k <= r.n; k++ {
			want := wantCoverRuns(kept[:r.n], k)
			one, other := impl.CoverRuns(list, k), impl.CoverRuns(list, k)
			for i := range one {
				one[i] = iv(-5, -6)
			}
			_ = append(one, iv(-5, -6), iv(-5, -6))
			if !slices.Equal(other, want) || !slices.Equal(r.room, kept) {
				t.Fatalf("CoverRuns of %v, %d: written into by an answer: %v, %v", kept[:r.n], k, other, r.room)
			}
			shared += len(one)
		}
		want := wantMissing(kept[:r.n], iv(25, 26))
		one, other := impl.Missing(list, iv(25, 26)), impl.Missing(list, iv(25, 26))
		for i := range one {
			one[i] = -5
		}
		_ = append(one, -5, -5)
		if !slices.Equal(other, want) || !slices.Equal(r.room, kept) {
			t.Fatalf("Missing of %v: written into by an answer: %v, %v", kept[:r.n], other, r.room)
		}
		shared += len(one)
	}
	if shared < 100 {
		t.Fatal("what was written over", shared)
	}
	// And the other way round: what was answered stays when the list is written over.
	list := ivals(iv(0, 3), iv(5, 7))
	runs, places := impl.CoverRuns(list, 1), impl.Missing(list, iv(5, 6))
	list[0], list[1] = iv(1, 1), iv(2, 2)
	if !slices.Equal(runs, ivals(iv(0, 3), iv(5, 7))) || !slices.Equal(places, []int{0}) {
		t.Fatal("what was answered was changed", runs, places)
	}
}
