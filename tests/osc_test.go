package tests

import (
	"math"
	"slices"
	"testing"

	"loop.example/g00072/impl"
)

func TestOscOkAtItsLimits(t *testing.T) {
	cases := []struct {
		o    impl.Osc
		want bool
	}{
		{osc(dr(1, 4), 0, 0), true},
		{osc(dr(1, 4), 7, 3), true},
		{osc(dr(1, 4), far, far), true},
		{osc(dr(1, 4), 0, far), true},
		{osc(dr(1, 4), far+1, 0), false},
		{osc(dr(1, 4), 0, far+1), false},
		{osc(dr(1, 4), -1, 0), false},
		{osc(dr(1, 4), 0, -1), false},
		{osc(dr(1, 4), math.MinInt, 5), false},
		{osc(dr(1, 4), 5, math.MaxInt), false},
		{osc(dr(0, 1), 5, 5), true},
		{osc(dr(0, 0), 5, 5), false},
		{osc(dr(3, 4), 5, 5), false},
		{osc(dr(-1, 4), 5, 5), false},
		{osc(dr(1, impl.MaxDen), 5, 5), true},
		{osc(dr(1, impl.MaxDen+1), 5, 5), false},
		{impl.Osc{}, false},
	}
	for _, c := range cases {
		if got := impl.OscOk(c.o); got != c.want {
			t.Errorf("OscOk(%v) is %v", c.o, got)
		}
	}
}

func checkStep(t *testing.T, o impl.Osc, s impl.Stride, want oscAnswer) {
	t.Helper()
	next, ok := impl.OscStep(o, s)
	if got := (oscAnswer{next, ok}); got != want {
		t.Fatalf("OscStep(%v, %v): got %v, want %v", o, s, got, want)
	}
}

func TestOscStepAtItsLimits(t *testing.T) {
	d, still := dr(1, 4), dr(0, 3)
	cases := []struct {
		o    impl.Osc
		s    impl.Stride
		want oscAnswer
	}{
		{osc(d, 3, 4), impl.Stride{By: 10, Want: 9}, oscAnswer{osc(d, 13, 13), true}},
		{osc(d, 3, 4), impl.Stride{By: 10, Want: 8}, oscAnswer{osc(d, 13, 12), true}},
		{osc(d, 3, 4), impl.Stride{By: 10, Want: 7}, oscAnswer{osc(d, 13, 12), true}},
		{osc(d, 3, 4), impl.Stride{By: 10, Want: 12}, oscAnswer{osc(d, 13, 16), true}},
		{osc(d, 3, 4), impl.Stride{By: 10, Want: 13}, oscAnswer{osc(d, 13, 16), true}},
		{osc(d, 3, 4), impl.Stride{By: 10, Want: math.MinInt}, oscAnswer{osc(d, 13, 12), true}},
		{osc(d, 3, 4), impl.Stride{By: 10, Want: math.MaxInt}, oscAnswer{osc(d, 13, 16), true}},
		{osc(d, 3, 4), impl.Stride{By: 0, Want: 9}, oscAnswer{osc(d, 3, 4), true}},
		{osc(d, 3, 4), impl.Stride{By: 0, Want: -9}, oscAnswer{osc(d, 3, 4), true}},
		{osc(d, 3, 4), impl.Stride{By: -1, Want: 0}, oscAnswer{osc(d, 3, 4), false}},
		{osc(d, 3, 4), impl.Stride{By: math.MinInt, Want: 0}, oscAnswer{osc(d, 3, 4), false}},
		{osc(d, 3, 4), impl.Stride{By: math.MaxInt, Want: 0}, oscAnswer{osc(d, 3, 4), false}},
		{osc(still, 0, 0), impl.Stride{By: far, Want: 0}, oscAnswer{osc(still, far, far), true}},
		{osc(still, 0, 0), impl.Stride{By: far + 1, Want: 0}, oscAnswer{osc(still, 0, 0), false}},
		{osc(still, 1, 0), impl.Stride{By: far, Want: 0}, oscAnswer{osc(still, 1, 0), false}},
		{osc(still, 0, 1), impl.Stride{By: far, Want: 0}, oscAnswer{osc(still, 0, 1), false}},
		{osc(d, far-10, 0), impl.Stride{By: 10, Want: 9}, oscAnswer{osc(d, far, 9), true}},
		{osc(d, far-9, 0), impl.Stride{By: 10, Want: 9}, oscAnswer{osc(d, far-9, 0), false}},
		{osc(d, 0, far-12), impl.Stride{By: 10, Want: 12}, oscAnswer{osc(d, 10, far), true}},
		{osc(d, 0, far-11), impl.Stride{By: 10, Want: 11}, oscAnswer{osc(d, 10, far), true}},
		{osc(d, 0, far-11), impl.Stride{By: 10, Want: 12}, oscAnswer{osc(d, 0, far-11), false}},
		{osc(d, far, far), impl.Stride{By: 0, Want: 12}, oscAnswer{osc(d, far, far), true}},
		{osc(d, far, far), impl.Stride{By: 1, Want: 1}, oscAnswer{osc(d, far, far), false}},
		// MostCount of this stride is just MaxTime, and one above it; then Clamp is false, though less was wanted.
		{osc(d, 0, 0), impl.Stride{By: 800000000000, Want: far}, oscAnswer{osc(d, 800000000000, far), true}},
		{osc(d, 0, 0), impl.Stride{By: 800000000001, Want: 0}, oscAnswer{osc(d, 0, 0), false}},
		{osc(dr(3, 4), 3, 4), impl.Stride{By: 1, Want: 1}, oscAnswer{}},
		{osc(dr(0, 0), 3, 4), impl.Stride{By: 1, Want: 1}, oscAnswer{}},
		{osc(d, -1, 4), impl.Stride{By: 1, Want: 1}, oscAnswer{}},
		{osc(d, 3, -1), impl.Stride{By: 1, Want: 1}, oscAnswer{}},
		{osc(d, far+1, 4), impl.Stride{By: 1, Want: 1}, oscAnswer{}},
		{osc(d, 3, far+1), impl.Stride{By: -1, Want: 1}, oscAnswer{}},
		{osc(d, math.MinInt, math.MaxInt), impl.Stride{By: math.MaxInt, Want: math.MinInt}, oscAnswer{}},
	}
	for _, c := range cases {
		checkStep(t, c.o, c.s, c.want)
	}
}

func TestOscStepAgainstTheModel(t *testing.T) {
	places := []int{math.MinInt, -1, 0, 1, 5, far - 5, far - 1, far, far + 1, math.MaxInt}
	bys := []int{math.MinInt, -1, 0, 1, 2, 3, 4, 5, 9, far/3*2 + 1, far/3*2 + 2, 800000000000, 800000000001, far, far + 1, math.MaxInt}
	wants := []int{math.MinInt, -1, 0, 3, 5, 7, far, far + 1, math.MaxInt}
	for _, d := range []impl.Drift{dr(0, 1), dr(1, 2), dr(1, 4), dr(2, 7), dr(impl.MaxDen/2, impl.MaxDen), dr(1, impl.MaxDen), dr(2, 3), dr(0, 0), dr(-1, 4), dr(0, impl.MaxDen+1)} {
		for _, time := range places {
			for _, count := range places {
				o := osc(d, time, count)
				if got := impl.OscOk(o); got != wantOscOk(o) {
					t.Fatalf("OscOk(%v) is %v", o, got)
				}
				for _, by := range bys {
					for _, want := range wants {
						s := impl.Stride{By: by, Want: want}
						checkStep(t, o, s, wantOscStep(o, s))
					}
				}
			}
		}
	}
}

func checkRun(t *testing.T, o impl.Osc, list []impl.Stride, want []impl.Mark, wantDone int) {
	t.Helper()
	marks, done := impl.OscRun(o, list)
	if !slices.Equal(marks, want) || done != wantDone {
		t.Fatalf("OscRun(%v, %v): got %v, %d, want %v, %d", o, list, marks, done, want, wantDone)
	}
}

func TestOscRunUpToTheFirstRefused(t *testing.T) {
	d := dr(1, 4)
	all := []impl.Stride{{By: 10, Want: 20}, {By: 4, Want: 0}, {By: 0, Want: 5}, {By: 1, Want: 1}}
	marks := []impl.Mark{mk(2, 1), mk(12, 13), mk(16, 16), mk(16, 16), mk(17, 17)}
	checkRun(t, osc(d, 2, 1), nil, marks[:1], 0)
	checkRun(t, osc(d, 2, 1), []impl.Stride{}, marks[:1], 0)
	checkRun(t, osc(d, 2, 1), all, marks, 4)
	for place := range len(all) + 1 {
		for _, by := range []int{-1, math.MinInt, far - 1, far + 1, math.MaxInt} {
			list := slices.Insert(slices.Clone(all), place, impl.Stride{By: by, Want: 3})
			checkRun(t, osc(d, 2, 1), list, marks[:place+1], place)
		}
	}
	checkRun(t, osc(d, far-1, far-1), []impl.Stride{{By: 1}, {By: 0}, {By: 1}, {By: 0}}, []impl.Mark{mk(far-1, far-1), mk(far, far), mk(far, far)}, 2)
	for _, o := range []impl.Osc{osc(dr(3, 4), 2, 1), osc(d, -1, 1), osc(d, 2, -1), osc(d, far+1, 1), osc(d, 2, far+1), {}} {
		checkRun(t, o, all, nil, 0)
		checkRun(t, o, nil, nil, 0)
	}
}

func TestOscRunOfMaxStrides(t *testing.T) {
	list := make([]impl.Stride, impl.MaxStrides+1)
	want := []impl.Mark{mk(5, 7)}
	for i := range list {
		list[i] = impl.Stride{By: i, Want: i}
		want = append(want, mk(want[i].Time+i, want[i].Count+i))
	}
	o := osc(dr(1, 4), 5, 7)
	checkRun(t, o, list[:impl.MaxStrides-1], want[:impl.MaxStrides], impl.MaxStrides-1)
	checkRun(t, o, list[:impl.MaxStrides], want[:impl.MaxStrides+1], impl.MaxStrides)
	checkRun(t, o, list, nil, 0)
	// The length is asked of the whole list, also where a stride early in it is refused.
	list[3].By = -1
	checkRun(t, o, list[:impl.MaxStrides], want[:4], 3)
	checkRun(t, o, list, nil, 0)
}

func TestOscRunIsStepByStep(t *testing.T) {
	strides := []impl.Stride{{By: 0, Want: 2}, {By: 1, Want: 0}, {By: 3, Want: 9}, {By: 7, Want: 7}, {By: -1, Want: 0}, {By: far - 9, Want: far - 9}}
	for _, d := range []impl.Drift{dr(0, 1), dr(1, 4), dr(1, impl.MaxDen), dr(1, 2), dr(2, 3)} {
		for code := range 6 * 6 * 6 {
			list := []impl.Stride{strides[code%6], strides[code/6%6], strides[code/36]}
			o := osc(d, 2, 1)
			var want []impl.Mark
			done := 0
			if wantOscOk(o) {
				want = append(want, mk(o.Time, o.Count))
			}
			for _, s := range list {
				next := wantOscStep(o, s)
				if !next.ok {
					break
				}
				o, done = next.o, done+1
				want = append(want, mk(o.Time, o.Count))
			}
			checkRun(t, osc(d, 2, 1), list, want, done)
		}
	}
}

func checkMarks(t *testing.T, d impl.Drift, list []impl.Mark, want bool) {
	t.Helper()
	if got := impl.MarksOk(d, list); got != want {
		t.Fatalf("MarksOk(%v, %v) is %v", d, list, got)
	}
	if got := impl.MarksAll(d, list); got != want {
		t.Fatalf("MarksAll(%v, %v) is %v", d, list, got)
	}
}

func TestMarksAtTheirLimits(t *testing.T) {
	d := dr(1, 4)
	cases := []struct {
		d    impl.Drift
		list []impl.Mark
		want bool
	}{
		{d, nil, false},
		{d, []impl.Mark{}, false},
		{d, []impl.Mark{{}}, true},
		{d, []impl.Mark{mk(0, far)}, true},
		{d, []impl.Mark{mk(far, 0)}, true},
		{d, []impl.Mark{mk(far, far)}, true},
		{d, []impl.Mark{mk(far+1, 0)}, false},
		{d, []impl.Mark{mk(0, far+1)}, false},
		{d, []impl.Mark{mk(-1, 0)}, false},
		{d, []impl.Mark{mk(0, -1)}, false},
		{d, []impl.Mark{mk(math.MinInt, math.MaxInt)}, false},
		{d, []impl.Mark{mk(5, 9), mk(15, 17)}, true},
		{d, []impl.Mark{mk(5, 9), mk(15, 16)}, false},
		{d, []impl.Mark{mk(5, 9), mk(15, 21)}, true},
		{d, []impl.Mark{mk(5, 9), mk(15, 22)}, false},
		{d, []impl.Mark{mk(5, 9), mk(5, 9)}, true},
		{d, []impl.Mark{mk(5, 9), mk(5, 10)}, false},
		{d, []impl.Mark{mk(5, 9), mk(5, 8)}, false},
		{d, []impl.Mark{mk(5, 9), mk(6, 9)}, false},
		{d, []impl.Mark{mk(5, 9), mk(4, 9)}, false},
		{d, []impl.Mark{mk(15, 17), mk(5, 9)}, false},
		{d, []impl.Mark{mk(5, 9), mk(15, 19), mk(14, 18)}, false},
		{dr(0, 1), []impl.Mark{mk(0, 0), mk(far, far)}, true},
		{dr(0, 1), []impl.Mark{mk(0, 1), mk(far, far)}, false},
		{dr(0, 1), []impl.Mark{mk(0, 0), mk(far, far), mk(far+1, far+1)}, false},
		{dr(0, 1), []impl.Mark{mk(-1, -1), mk(0, 0)}, false},
		{dr(0, 1), []impl.Mark{mk(0, 0), mk(0, far+1)}, false},
		// A difference of these leaves 64 bits, and would come round as one that may be.
		{dr(0, 1), []impl.Mark{mk(math.MaxInt, math.MaxInt), mk(math.MinInt, math.MinInt)}, false},
		{d, []impl.Mark{mk(0, 0), mk(800000000000, 600000000000), mk(far, 800000000000)}, true},
		{d, []impl.Mark{mk(0, 0), mk(800000000000, 599999999999), mk(far, 800000000000)}, false},
		{dr(1, 3), []impl.Mark{mk(0, 0), mk(3, 4)}, true},
		{dr(2, 3), []impl.Mark{mk(0, 0), mk(3, 4)}, false},
		{dr(0, 0), []impl.Mark{mk(0, 0)}, false},
		{dr(-1, 4), []impl.Mark{mk(0, 0)}, false},
		{dr(1, impl.MaxDen+1), []impl.Mark{mk(0, 0)}, false},
	}
	for _, c := range cases {
		checkMarks(t, c.d, c.list, c.want)
	}
}

func TestMarksOfMaxMarks(t *testing.T) {
	d := dr(1, 4)
	list := make([]impl.Mark, impl.MaxMarks+1)
	for i := range list {
		list[i] = mk(10*i, 11*i)
	}
	checkMarks(t, d, list[:impl.MaxMarks-1], true)
	checkMarks(t, d, list[:impl.MaxMarks], true)
	checkMarks(t, d, list, false)
	for i := range impl.MaxMarks {
		wrong := slices.Clone(list[:impl.MaxMarks])
		wrong[i] = mk(wrong[i].Time, far+1)
		checkMarks(t, d, wrong, false)
		wrong[i] = mk(-1, wrong[i].Count)
		checkMarks(t, d, wrong, false)
		wrong[i] = mk(10*i+5, 11*i)
		checkMarks(t, d, wrong, wantMarksOk(d, wrong))
	}
}

// P3: marks may be two by two just if each two neighbours may; every row of small marks, right and wrong.
func TestNeighboursAreEnough(t *testing.T) {
	for _, d := range append(smallDrifts(4), dr(0, 0), dr(2, 9)) {
		for length := range 4 {
			for _, row := range marksOf(length, 4) {
				neighbours, all := wantMarksOk(d, row), wantMarksAll(d, row)
				if neighbours != all {
					t.Fatalf("the model itself: %v by %v", row, d)
				}
				checkMarks(t, d, row, all)
			}
		}
		for _, row := range walksOf(d, 3, 5) {
			checkMarks(t, d, row, impl.DriftOk(d))
		}
	}
}

func checkElapsed(t *testing.T, d impl.Drift, list []impl.Mark, i, j int, want pairAnswer) {
	t.Helper()
	a, ok := impl.ElapsedAt(d, list, i, j)
	if got := (pairAnswer{a, ok}); got != want {
		t.Fatalf("ElapsedAt(%v, %v, %d, %d): got %v, want %v", d, list, i, j, got, want)
	}
}

func TestElapsedAtItsLimits(t *testing.T) {
	d := dr(1, 4)
	list := []impl.Mark{mk(3, 2), mk(13, 14), mk(17, 17)}
	cases := []struct {
		i, j int
		want pairAnswer
	}{
		{0, 0, pairAnswer{iv(0, 0), true}},
		{2, 2, pairAnswer{iv(0, 0), true}},
		{0, 1, pairAnswer{iv(10, 16), true}},
		{0, 2, pairAnswer{iv(12, 20), true}},
		{1, 2, pairAnswer{iv(3, 4), true}},
		{1, 0, pairAnswer{}},
		{2, 0, pairAnswer{}},
		{-1, 0, pairAnswer{}},
		{-1, -1, pairAnswer{}},
		{0, 3, pairAnswer{}},
		{2, 3, pairAnswer{}},
		{3, 3, pairAnswer{}},
		{3, 2, pairAnswer{}},
		{math.MinInt, 0, pairAnswer{}},
		{0, math.MaxInt, pairAnswer{}},
		{math.MinInt, math.MaxInt, pairAnswer{}},
		{math.MaxInt, math.MaxInt, pairAnswer{}},
	}
	for _, c := range cases {
		checkElapsed(t, d, list, c.i, c.j, c.want)
		checkElapsed(t, dr(3, 4), list, c.i, c.j, pairAnswer{})
		checkElapsed(t, d, nil, c.i, c.j, pairAnswer{})
		checkElapsed(t, d, []impl.Mark{mk(3, 2), mk(13, 14), mk(17, 18), mk(18, 18)}, c.i, c.j, pairAnswer{})
	}
	most := []impl.Mark{mk(0, 0), mk(far, 750000000000)}
	checkElapsed(t, d, most, 0, 1, pairAnswer{iv(600000000000, far), true})
	above := []impl.Mark{mk(0, 0), mk(far, 750000000001)}
	checkElapsed(t, d, above, 0, 1, pairAnswer{})
	checkElapsed(t, d, above, 0, 0, pairAnswer{iv(0, 0), true})
	checkElapsed(t, d, above, 1, 1, pairAnswer{iv(0, 0), true})
}

func TestElapsedOfMaxMarks(t *testing.T) {
	list := make([]impl.Mark, impl.MaxMarks+1)
	for i := range list {
		list[i] = mk(4*i, 4*i)
	}
	last := impl.MaxMarks - 1
	checkElapsed(t, dr(1, 4), list[:impl.MaxMarks], 0, last, wantBetween(dr(1, 4), 4*last))
	checkElapsed(t, dr(1, 4), list[:impl.MaxMarks], last, last, pairAnswer{iv(0, 0), true})
	checkElapsed(t, dr(1, 4), list[:impl.MaxMarks], last, last+1, pairAnswer{})
	checkElapsed(t, dr(1, 4), list, 0, last, pairAnswer{})
}

// P3: true time between two marks lies in what their counts say.
func TestTrueTimeLiesInWhatCountsSay(t *testing.T) {
	for _, d := range smallDrifts(4) {
		for _, row := range walksOf(d, 3, 5) {
			for j := range row {
				for i := range row {
					checkElapsed(t, d, row, i, j, wantElapsedAt(d, row, i, j))
					a, ok := impl.ElapsedAt(d, row, i, j)
					if ok != (i <= j && impl.DriftOk(d)) || ok && !impl.Holds(a, row[j].Time-row[i].Time) {
						t.Fatalf("%v by %v from %d to %d: %v, %v", row, d, i, j, a, ok)
					}
				}
			}
		}
	}
}

func checkWhen(t *testing.T, d impl.Drift, list []impl.Mark, key int, wantCounts, wantTimes pairAnswer) {
	t.Helper()
	a, ok := impl.CountWhen(d, list, key)
	if got := (pairAnswer{a, ok}); got != wantCounts {
		t.Fatalf("CountWhen(%v, %v, %d): got %v, want %v", d, list, key, got, wantCounts)
	}
	a, ok = impl.TimeWhen(d, list, key)
	if got := (pairAnswer{a, ok}); got != wantTimes {
		t.Fatalf("TimeWhen(%v, %v, %d): got %v, want %v", d, list, key, got, wantTimes)
	}
}

func TestWhenAtItsLimits(t *testing.T) {
	d := dr(1, 4)
	list := []impl.Mark{mk(10, 20), mk(20, 32), mk(40, 50)}
	cases := []struct {
		key           int
		counts, times pairAnswer
	}{
		{math.MinInt, pairAnswer{}, pairAnswer{}},
		{-1, pairAnswer{}, pairAnswer{}},
		{0, pairAnswer{}, pairAnswer{}},
		{9, pairAnswer{}, pairAnswer{}},
		{10, pairAnswer{iv(20, 20), true}, pairAnswer{}},
		{11, pairAnswer{iv(21, 21), true}, pairAnswer{}},
		{19, pairAnswer{iv(31, 31), true}, pairAnswer{}},
		{20, pairAnswer{iv(32, 32), true}, pairAnswer{iv(10, 10), true}},
		{21, pairAnswer{iv(33, 33), true}, pairAnswer{iv(11, 11), true}},
		{22, pairAnswer{iv(34, 34), true}, pairAnswer{iv(12, 12), true}},
		{30, pairAnswer{iv(40, 42), true}, pairAnswer{iv(18, 18), true}},
		{31, pairAnswer{iv(41, 43), true}, pairAnswer{iv(19, 19), true}},
		{32, pairAnswer{iv(41, 44), true}, pairAnswer{iv(20, 20), true}},
		{33, pairAnswer{iv(42, 44), true}, pairAnswer{iv(21, 21), true}},
		{40, pairAnswer{iv(50, 50), true}, pairAnswer{iv(27, 30), true}},
		{41, pairAnswer{}, pairAnswer{iv(28, 32), true}},
		{49, pairAnswer{}, pairAnswer{iv(39, 39), true}},
		{50, pairAnswer{}, pairAnswer{iv(40, 40), true}},
		{51, pairAnswer{}, pairAnswer{}},
		{far, pairAnswer{}, pairAnswer{}},
		{far + 1, pairAnswer{}, pairAnswer{}},
		{math.MaxInt, pairAnswer{}, pairAnswer{}},
	}
	for _, c := range cases {
		checkWhen(t, d, list, c.key, c.counts, c.times)
		checkWhen(t, dr(3, 4), list, c.key, pairAnswer{}, pairAnswer{})
		checkWhen(t, dr(0, 0), list, c.key, pairAnswer{}, pairAnswer{})
		checkWhen(t, d, nil, c.key, pairAnswer{}, pairAnswer{})
		checkWhen(t, d, []impl.Mark{mk(10, 20), mk(20, 33), mk(40, 50)}, c.key, pairAnswer{}, pairAnswer{})
		checkWhen(t, d, []impl.Mark{mk(10, 20), mk(20, 32), mk(40, far+1)}, c.key, pairAnswer{}, pairAnswer{})
	}
	one := []impl.Mark{mk(7, 9)}
	checkWhen(t, d, one, 6, pairAnswer{}, pairAnswer{})
	checkWhen(t, d, one, 7, pairAnswer{iv(9, 9), true}, pairAnswer{})
	checkWhen(t, d, one, 8, pairAnswer{}, pairAnswer{})
	checkWhen(t, d, one, 9, pairAnswer{}, pairAnswer{iv(7, 7), true})
	checkWhen(t, d, one, 10, pairAnswer{}, pairAnswer{})
}

func TestWhenNoneFits(t *testing.T) {
	list := []impl.Mark{mk(0, 0), mk(10, 12), mk(14, 15)}
	// 10 counted 12, and of the 4 on to 14 only 3: 2 of them count from 2 on to 2, but leave no more than 1 to come.
	if a, ok := impl.CountWhen(dr(1, 4), list, 12); ok || a != iv(0, 0) {
		t.Error("CountWhen where none fits", a, ok)
	}
	none := 0
	for _, d := range smallDrifts(6) {
		for _, row := range walksOf(d, 1, 9) {
			for key := range 10 {
				checkWhen(t, d, row, key, wantCountWhen(d, row, key), wantTimeWhen(d, row, key))
				if _, ok := impl.TimeWhen(d, row, key); !ok && key <= row[1].Count {
					none++
				}
			}
		}
	}
	if none == 0 {
		t.Error("no count here has no time, so nothing was asked of it")
	}
}

func TestWhenAtTheFarEnd(t *testing.T) {
	d := dr(1, 4)
	// From the first mark on, MostCount is just MaxTime, and one above it.
	cases := []struct {
		list   []impl.Mark
		time   int
		counts pairAnswer
	}{
		{[]impl.Mark{mk(0, 0), mk(far, far)}, 800000000000, pairAnswer{iv(750000000000, 850000000000), true}},
		{[]impl.Mark{mk(0, 0), mk(far, far)}, 800000000001, pairAnswer{}},
		{[]impl.Mark{mk(0, 0), mk(far, far)}, 200000000000, pairAnswer{iv(150000000000, 250000000000), true}},
		{[]impl.Mark{mk(0, 0), mk(far, far)}, 199999999999, pairAnswer{}},
		{[]impl.Mark{mk(0, 0), mk(far, far)}, 0, pairAnswer{}},
		{[]impl.Mark{mk(0, 0), mk(far, far)}, far, pairAnswer{iv(far, far), true}},
		{[]impl.Mark{mk(0, 0), mk(800000000000, far)}, 0, pairAnswer{iv(0, 0), true}},
		{[]impl.Mark{mk(0, 0), mk(800000000001, far)}, 0, pairAnswer{}},
		// Two marks of one time: the last of them counts, and from it the next one is too far.
		{[]impl.Mark{mk(0, 0), mk(0, 0), mk(far, far)}, 0, pairAnswer{}},
		{[]impl.Mark{mk(0, 0), mk(far, far), mk(far, far)}, far, pairAnswer{iv(far, far), true}},
		// A sum above MaxTime, or a difference below 0, is no reason to refuse: the other mark holds it in.
		{[]impl.Mark{mk(far-16, far-16), mk(far, far)}, far - 2, pairAnswer{iv(far-2, far-2), true}},
		{[]impl.Mark{mk(0, 0), mk(20, 20)}, 2, pairAnswer{iv(2, 2), true}},
	}
	for _, c := range cases {
		a, ok := impl.CountWhen(d, c.list, c.time)
		if got := (pairAnswer{a, ok}); got != c.counts {
			t.Errorf("CountWhen(%v, %d): got %v, want %v", c.list, c.time, got, c.counts)
		}
	}
	times := []struct {
		list  []impl.Mark
		count int
		want  pairAnswer
	}{
		{[]impl.Mark{mk(0, 0), mk(far, far)}, 750000000000, pairAnswer{iv(666666666667, 800000000000), true}},
		{[]impl.Mark{mk(0, 0), mk(far, far)}, 750000000001, pairAnswer{}},
		{[]impl.Mark{mk(0, 0), mk(far, far)}, 250000000000, pairAnswer{iv(200000000000, 333333333333), true}},
		{[]impl.Mark{mk(0, 0), mk(far, far)}, 249999999999, pairAnswer{}},
		{[]impl.Mark{mk(0, 0), mk(far, far)}, 0, pairAnswer{}},
		{[]impl.Mark{mk(0, 0), mk(far, far)}, far, pairAnswer{iv(far, far), true}},
		{[]impl.Mark{mk(0, 0), mk(far, 750000000000)}, 0, pairAnswer{iv(0, 0), true}},
		{[]impl.Mark{mk(0, 0), mk(far, 750000000001)}, 0, pairAnswer{}},
		{[]impl.Mark{mk(0, 0), mk(0, 0), mk(far, far)}, 0, pairAnswer{}},
		{[]impl.Mark{mk(0, 0), mk(far, far), mk(far, far)}, far, pairAnswer{iv(far, far), true}},
		{[]impl.Mark{mk(far-16, far-16), mk(far, far)}, far - 2, pairAnswer{iv(far-2, far-2), true}},
		{[]impl.Mark{mk(0, 0), mk(20, 20)}, 2, pairAnswer{iv(2, 2), true}},
	}
	for _, c := range times {
		a, ok := impl.TimeWhen(d, c.list, c.count)
		if got := (pairAnswer{a, ok}); got != c.want {
			t.Errorf("TimeWhen(%v, %d): got %v, want %v", c.list, c.count, got, c.want)
		}
	}
}

// MostTime from the one mark is just MaxTime, and above it, where all else would leave times that fit.
func TestTimeWhenOneOfTheNumbersIsFalse(t *testing.T) {
	list := []impl.Mark{mk(0, 0), mk(700000000000, 900000000002)}
	cases := []struct {
		count int
		want  pairAnswer
	}{
		{400000000000, pairAnswer{}},
		{400000000001, pairAnswer{}},
		{400000000002, pairAnswer{iv(266666666668, 366666666666), true}},
		{500000000000, pairAnswer{iv(333333333334, 433333333332), true}},
		{500000000001, pairAnswer{}},
		{500000000002, pairAnswer{}},
	}
	for _, c := range cases {
		a, ok := impl.TimeWhen(dr(1, 2), list, c.count)
		if got := (pairAnswer{a, ok}); got != c.want || got != wantTimeWhen(dr(1, 2), list, c.count) {
			t.Errorf("TimeWhen at %d: got %v, want %v", c.count, got, c.want)
		}
	}
}

// A count fits a time just if it may be counted from the mark up to it, and from it up to the mark behind.
func fits(d impl.Drift, row []impl.Mark, m impl.Mark, last int) bool {
	if !impl.MayCount(d, m.Time-row[last].Time, m.Count-row[last].Count) {
		return false
	}
	return last+1 == len(row) || impl.MayCount(d, row[last+1].Time-m.Time, row[last+1].Count-m.Count)
}

func lastUpTo(row []impl.Mark, at func(impl.Mark) bool) int {
	last := -1
	for i, m := range row {
		if at(m) {
			last = i
		}
	}
	return last
}

// Every time and every count of every small walk: just those that fit are told, and the marks themselves always do.
func TestWhenTellsJustWhatFits(t *testing.T) {
	for _, d := range smallDrifts(5) {
		for _, row := range walksOf(d, 2, 7) {
			end := row[len(row)-1]
			for time := range end.Time + 1 {
				a, ok := impl.CountWhen(d, row, time)
				last := lastUpTo(row, func(m impl.Mark) bool { return m.Time <= time })
				for count := range end.Count + 3 {
					if fits(d, row, mk(time, count), last) != (ok && impl.Holds(a, count)) {
						t.Fatalf("%d at the time %d of %v by %v: %v, %v", count, time, row, d, a, ok)
					}
				}
			}
			for count := range end.Count + 1 {
				a, ok := impl.TimeWhen(d, row, count)
				last := lastUpTo(row, func(m impl.Mark) bool { return m.Count <= count })
				for time := range end.Time + 3 {
					if fits(d, row, mk(time, count), last) != (ok && impl.Holds(a, time)) {
						t.Fatalf("%d at the count %d of %v by %v: %v, %v", time, count, row, d, a, ok)
					}
				}
			}
		}
	}
}

// What an oscillator did between two marks lies in what they say of it: of a long run a few marks are kept, and each other one is asked of those.
func TestWhenHoldsWhatWas(t *testing.T) {
	for _, d := range []impl.Drift{dr(0, 1), dr(1, 2), dr(1, 4), dr(1, 3), dr(2, 5)} {
		for _, want := range []int{0, 2, 9} {
			var list []impl.Stride
			for i := range 60 {
				list = append(list, impl.Stride{By: i % 7, Want: want + i%3})
			}
			all, done := impl.OscRun(osc(d, 3, 11), list)
			if done != 60 || !impl.MarksAll(d, all) {
				t.Fatal("run", all, done)
			}
			few := []impl.Mark{all[0], all[17], all[18], all[44], all[60]}
			for _, m := range all {
				if a, ok := impl.CountWhen(d, few, m.Time); !ok || !impl.Holds(a, m.Count) {
					t.Fatalf("%v by %v is not in %v, %v", m, d, a, ok)
				}
				if a, ok := impl.TimeWhen(d, few, m.Count); !ok || !impl.Holds(a, m.Time) {
					t.Fatalf("%v by %v is not in %v, %v", m, d, a, ok)
				}
			}
		}
	}
}

// Every function of marks at marks, places, times and counts around the limits, right and wrong mixed (P23).
func TestMarksAgainstTheModel(t *testing.T) {
	ends := []impl.Mark{mk(0, 0), mk(1, 1), mk(4, 5), mk(far/2, far/2), mk(far-1, far), mk(far, far), mk(far, 0), mk(-1, 0), mk(0, far+1), mk(math.MinInt, math.MaxInt), mk(math.MaxInt, math.MinInt)}
	keys := append(edgeNumbers(), 3, 4, 5, far/4, far/2-1, far/2, far/2+1, far/3*2)
	for _, d := range []impl.Drift{dr(0, 1), dr(1, 4), dr(1, 2), dr(1, impl.MaxDen), dr(2, 3), dr(0, 0), dr(math.MaxInt, math.MaxInt)} {
		for code := range len(ends) * len(ends) * len(ends) {
			list := []impl.Mark{ends[code%len(ends)], ends[code/len(ends)%len(ends)], ends[code/len(ends)/len(ends)]}
			for n := range 4 {
				checkMarks(t, d, list[:n], wantMarksOk(d, list[:n]))
				for _, key := range keys {
					checkWhen(t, d, list[:n], key, wantCountWhen(d, list[:n], key), wantTimeWhen(d, list[:n], key))
				}
			}
			for i := -1; i < 4; i++ {
				for j := -1; j < 4; j++ {
					checkElapsed(t, d, list, i, j, wantElapsedAt(d, list, i, j))
				}
			}
		}
	}
}

// P23: nothing is written into a list, nor into the spare room behind it, and no answer is used again for the next.
func TestOscWritesIntoNothing(t *testing.T) {
	d := dr(1, 4)
	room := []impl.Stride{{By: 10, Want: 20}, {By: 4, Want: 0}, {By: -1, Want: 7}, {By: 3, Want: 3}, {By: 8, Want: 1}}
	kept := slices.Clone(room)
	first, _ := impl.OscRun(osc(d, 0, 0), room[:3])
	second, _ := impl.OscRun(osc(d, 0, 0), room[:3])
	for i := range first {
		first[i] = mk(-7, -7)
	}
	if want := []impl.Mark{mk(0, 0), mk(10, 12), mk(14, 15)}; !slices.Equal(second, want) {
		t.Error("an answer was changed by another", second)
	}
	if !slices.Equal(room, kept) {
		t.Error("strides were written into", room)
	}
	marks := []impl.Mark{mk(0, 0), mk(10, 12), mk(14, 15), mk(-1, 99), mk(3, -4)}
	before := slices.Clone(marks)
	for n := range len(marks) + 1 {
		impl.MarksOk(d, marks[:n])
		impl.MarksAll(d, marks[:n])
		impl.ElapsedAt(d, marks[:n], 0, n-1)
		impl.CountWhen(d, marks[:n], 11)
		impl.TimeWhen(d, marks[:n], 13)
		if !slices.Equal(marks, before) {
			t.Fatal("marks were written into", marks)
		}
	}
}
