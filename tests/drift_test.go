package tests

import (
	"math"
	"testing"

	"loop.example/g00072/impl"
)

func TestDriftOkAtItsLimits(t *testing.T) {
	cases := []struct {
		d    impl.Drift
		want bool
	}{
		{dr(0, 1), true},
		{dr(0, 0), false},
		{dr(0, -1), false},
		{dr(-1, -2), false},
		{dr(0, impl.MaxDen), true},
		{dr(0, impl.MaxDen+1), false},
		{dr(1, impl.MaxDen+1), false},
		{dr(-1, 4), false},
		{dr(0, 4), true},
		{dr(1, 1), false},
		{dr(1, 2), true},
		{dr(1, 3), true},
		{dr(2, 3), false},
		{dr(2, 4), true},
		{dr(3, 4), false},
		{dr(3, 5), false},
		{dr(impl.MaxDen/2, impl.MaxDen), true},
		{dr(impl.MaxDen/2+1, impl.MaxDen), false},
		{dr(impl.MaxDen/2-1, impl.MaxDen-1), true},
		{dr(impl.MaxDen/2, impl.MaxDen-1), false},
		{dr(math.MaxInt, 4), false},
		{dr(math.MaxInt/2+1, 4), false},
		{dr(math.MaxInt/2+2, impl.MaxDen), false},
		{dr(math.MinInt, 4), false},
		{dr(math.MinInt/2, impl.MaxDen), false},
		{dr(1, math.MaxInt), false},
		{dr(0, math.MinInt), false},
	}
	for _, c := range cases {
		if got := impl.DriftOk(c.d); got != c.want {
			t.Errorf("DriftOk(%v) is %v", c.d, got)
		}
	}
}

func TestMayCountAtItsLimits(t *testing.T) {
	cases := []struct {
		d           impl.Drift
		time, count int
		want        bool
	}{
		{dr(1, 4), 10, 7, false},
		{dr(1, 4), 10, 8, true},
		{dr(1, 4), 10, 12, true},
		{dr(1, 4), 10, 13, false},
		{dr(1, 4), 8, 6, true},
		{dr(1, 4), 8, 5, false},
		{dr(1, 4), 8, 10, true},
		{dr(1, 4), 8, 11, false},
		{dr(0, 7), 5, 5, true},
		{dr(0, 7), 5, 4, false},
		{dr(0, 7), 5, 6, false},
		{dr(1, 2), 0, 0, true},
		{dr(1, 2), 0, 1, false},
		{dr(1, 2), 1, 0, false},
		{dr(1, 2), -1, -1, false},
		{dr(0, 1), -1, -1, false},
		{dr(1, 2), far, far / 2, true},
		{dr(1, 2), far, far/2 - 1, false},
		{dr(1, 2), far / 2, far/4*3 + 1, false},
		{dr(1, 2), far / 2, far / 4 * 3, true},
		{dr(1, 2), far, far, true},
		{dr(0, 1), far + 1, far + 1, false},
		{dr(1, 2), far + 1, far, false},
		{dr(1, 2), far, far + 1, false},
		{dr(impl.MaxDen/2, impl.MaxDen), far, far, true},
		{dr(impl.MaxDen/2, impl.MaxDen), far, far / 2, true},
		{dr(impl.MaxDen/2, impl.MaxDen), far, far/2 - 1, false},
		{dr(2, 3), 10, 10, false},
		{dr(0, 0), 0, 0, false},
		{dr(0, impl.MaxDen+1), 1, 1, false},
		{dr(1, 4), math.MaxInt, math.MaxInt, false},
		{dr(1, 4), math.MinInt, math.MinInt, false},
	}
	for _, c := range cases {
		if got := impl.MayCount(c.d, c.time, c.count); got != c.want {
			t.Errorf("MayCount(%v, %d, %d) is %v", c.d, c.time, c.count, got)
		}
	}
}

// Divisions that come out even and that do not, what comes out at MaxTime and above it, and what is refused.
func TestTimesOfACount(t *testing.T) {
	cases := []struct {
		d           impl.Drift
		count       int
		least, most numAnswer
	}{
		{dr(1, 4), 10, numAnswer{8, true}, numAnswer{13, true}},
		{dr(1, 4), 11, numAnswer{9, true}, numAnswer{14, true}},
		{dr(1, 4), 15, numAnswer{12, true}, numAnswer{20, true}},
		{dr(1, 4), 16, numAnswer{13, true}, numAnswer{21, true}},
		{dr(1, 2), 1, numAnswer{1, true}, numAnswer{2, true}},
		{dr(1, 2), 0, numAnswer{0, true}, numAnswer{0, true}},
		{dr(0, 9), 5, numAnswer{5, true}, numAnswer{5, true}},
		{dr(0, 9), far, numAnswer{far, true}, numAnswer{far, true}},
		{dr(0, impl.MaxDen), far, numAnswer{far, true}, numAnswer{far, true}},
		{dr(1, 2), far / 2, numAnswer{333333333334, true}, numAnswer{far, true}},
		{dr(1, 2), far/2 + 1, numAnswer{333333333334, true}, numAnswer{}},
		{dr(1, 4), 750000000000, numAnswer{600000000000, true}, numAnswer{far, true}},
		{dr(1, 4), 750000000001, numAnswer{600000000001, true}, numAnswer{}},
		{dr(1, 3), 666666666667, numAnswer{500000000001, true}, numAnswer{far, true}},
		{dr(1, 3), 666666666668, numAnswer{500000000001, true}, numAnswer{}},
		{dr(1, impl.MaxDen), far, numAnswer{999999000001, true}, numAnswer{}},
		{dr(impl.MaxDen/2, impl.MaxDen), far, numAnswer{666666666667, true}, numAnswer{}},
		{dr(1, 4), far + 1, numAnswer{}, numAnswer{}},
		{dr(1, 4), -1, numAnswer{}, numAnswer{}},
		{dr(1, 4), math.MaxInt, numAnswer{}, numAnswer{}},
		{dr(1, 4), math.MinInt, numAnswer{}, numAnswer{}},
		{dr(2, 3), 10, numAnswer{}, numAnswer{}},
		{dr(0, 0), 10, numAnswer{}, numAnswer{}},
		{dr(1, -1), 10, numAnswer{}, numAnswer{}},
		{dr(1, 1), 10, numAnswer{}, numAnswer{}},
		{dr(-1, 4), 10, numAnswer{}, numAnswer{}},
		{dr(0, impl.MaxDen+1), 10, numAnswer{}, numAnswer{}},
	}
	for _, c := range cases {
		n, ok := impl.LeastTime(c.d, c.count)
		checkNum(t, "LeastTime", n, ok, c.least)
		n, ok = impl.MostTime(c.d, c.count)
		checkNum(t, "MostTime", n, ok, c.most)
		a, ok := impl.Between(c.d, c.count)
		if c.least.ok && c.most.ok {
			checkPair(t, "Between", a, ok, pairAnswer{iv(c.least.n, c.most.n), true})
		} else {
			checkPair(t, "Between of no two times", a, ok, pairAnswer{})
		}
	}
}

func TestCountsOfATime(t *testing.T) {
	cases := []struct {
		d           impl.Drift
		time        int
		least, most numAnswer
	}{
		{dr(1, 4), 10, numAnswer{8, true}, numAnswer{12, true}},
		{dr(1, 4), 12, numAnswer{9, true}, numAnswer{15, true}},
		{dr(1, 4), 13, numAnswer{10, true}, numAnswer{16, true}},
		{dr(1, 2), 1, numAnswer{1, true}, numAnswer{1, true}},
		{dr(1, 2), 2, numAnswer{1, true}, numAnswer{3, true}},
		{dr(1, 2), 0, numAnswer{0, true}, numAnswer{0, true}},
		{dr(0, 9), 5, numAnswer{5, true}, numAnswer{5, true}},
		{dr(0, 9), far, numAnswer{far, true}, numAnswer{far, true}},
		{dr(0, impl.MaxDen), far, numAnswer{far, true}, numAnswer{far, true}},
		{dr(1, 2), 666666666667, numAnswer{333333333334, true}, numAnswer{far, true}},
		{dr(1, 2), 666666666668, numAnswer{333333333334, true}, numAnswer{}},
		{dr(1, 4), 800000000000, numAnswer{600000000000, true}, numAnswer{far, true}},
		{dr(1, 4), 800000000001, numAnswer{600000000001, true}, numAnswer{}},
		{dr(1, impl.MaxDen), far, numAnswer{999999000000, true}, numAnswer{}},
		{dr(impl.MaxDen/2, impl.MaxDen), far, numAnswer{far / 2, true}, numAnswer{}},
		{dr(1, 4), far + 1, numAnswer{}, numAnswer{}},
		{dr(1, 4), -1, numAnswer{}, numAnswer{}},
		{dr(1, 4), math.MaxInt, numAnswer{}, numAnswer{}},
		{dr(1, 4), math.MinInt, numAnswer{}, numAnswer{}},
		{dr(2, 3), 10, numAnswer{}, numAnswer{}},
		{dr(0, 0), 10, numAnswer{}, numAnswer{}},
		{dr(-1, 4), 10, numAnswer{}, numAnswer{}},
		{dr(0, impl.MaxDen+1), 10, numAnswer{}, numAnswer{}},
	}
	for _, c := range cases {
		n, ok := impl.LeastCount(c.d, c.time)
		checkNum(t, "LeastCount", n, ok, c.least)
		n, ok = impl.MostCount(c.d, c.time)
		checkNum(t, "MostCount", n, ok, c.most)
	}
}

func TestClampAtItsLimits(t *testing.T) {
	cases := []struct {
		d          impl.Drift
		time, want int
		answer     numAnswer
	}{
		{dr(1, 4), 10, math.MinInt, numAnswer{8, true}},
		{dr(1, 4), 10, -1, numAnswer{8, true}},
		{dr(1, 4), 10, 7, numAnswer{8, true}},
		{dr(1, 4), 10, 8, numAnswer{8, true}},
		{dr(1, 4), 10, 9, numAnswer{9, true}},
		{dr(1, 4), 10, 12, numAnswer{12, true}},
		{dr(1, 4), 10, 13, numAnswer{12, true}},
		{dr(1, 4), 10, far + 1, numAnswer{12, true}},
		{dr(1, 4), 10, math.MaxInt, numAnswer{12, true}},
		{dr(0, 4), 10, 3, numAnswer{10, true}},
		{dr(0, 4), 10, 30, numAnswer{10, true}},
		{dr(1, 4), 0, 30, numAnswer{0, true}},
		{dr(1, 4), 0, -30, numAnswer{0, true}},
		{dr(0, 4), far, math.MaxInt, numAnswer{far, true}},
		{dr(1, 4), 800000000000, math.MaxInt, numAnswer{far, true}},
		{dr(1, 4), 800000000000, 600000000000, numAnswer{600000000000, true}},
		{dr(1, 4), 800000000001, 600000000001, numAnswer{}},
		{dr(1, 4), 800000000001, far, numAnswer{}},
		{dr(1, 4), 800000000001, 0, numAnswer{}},
		{dr(1, 4), far + 1, far, numAnswer{}},
		{dr(1, 4), -1, 0, numAnswer{}},
		{dr(1, 4), math.MinInt, math.MinInt, numAnswer{}},
		{dr(1, 4), math.MaxInt, math.MaxInt, numAnswer{}},
		{dr(2, 3), 10, 10, numAnswer{}},
		{dr(0, 0), 10, 10, numAnswer{}},
		{dr(-1, 4), 10, 10, numAnswer{}},
		{dr(0, impl.MaxDen+1), 10, 10, numAnswer{}},
	}
	for _, c := range cases {
		n, ok := impl.Clamp(c.d, c.time, c.want)
		checkNum(t, "Clamp", n, ok, c.answer)
	}
}

func checkWorse(t *testing.T, a, b impl.Drift, want driftAnswer) {
	t.Helper()
	d, ok := impl.Worse(a, b)
	if got := (driftAnswer{d, ok}); got != want {
		t.Fatalf("Worse(%v, %v): got %v, want %v", a, b, got, want)
	}
}

func TestWorseOfTwo(t *testing.T) {
	cases := []struct {
		a, b impl.Drift
		want driftAnswer
	}{
		{dr(1, 4), dr(1, 3), driftAnswer{dr(1, 3), true}},
		{dr(1, 3), dr(1, 4), driftAnswer{dr(1, 3), true}},
		{dr(1, 5), dr(2, 9), driftAnswer{dr(2, 9), true}},
		{dr(3, 100), dr(1, 3), driftAnswer{dr(1, 3), true}},
		{dr(1, 2), dr(2, 4), driftAnswer{dr(1, 2), true}},
		{dr(2, 4), dr(1, 2), driftAnswer{dr(2, 4), true}},
		{dr(0, 1), dr(0, 7), driftAnswer{dr(0, 1), true}},
		{dr(0, 7), dr(0, 1), driftAnswer{dr(0, 7), true}},
		{dr(0, 7), dr(1, impl.MaxDen), driftAnswer{dr(1, impl.MaxDen), true}},
		{dr(333333, 999998), dr(333334, impl.MaxDen), driftAnswer{dr(333334, impl.MaxDen), true}},
		{dr(333334, impl.MaxDen), dr(333333, 999998), driftAnswer{dr(333334, impl.MaxDen), true}},
		{dr(impl.MaxDen/2, impl.MaxDen), dr(1, 2), driftAnswer{dr(impl.MaxDen/2, impl.MaxDen), true}},
		{dr(2, 3), dr(1, 3), driftAnswer{}},
		{dr(1, 3), dr(2, 3), driftAnswer{}},
		{dr(0, 0), dr(0, 1), driftAnswer{}},
		{dr(0, 1), dr(0, 0), driftAnswer{}},
		{dr(1, impl.MaxDen+1), dr(0, 1), driftAnswer{}},
		{dr(0, 1), dr(-1, 2), driftAnswer{}},
		{dr(math.MaxInt, math.MaxInt), dr(math.MinInt, math.MinInt), driftAnswer{}},
	}
	for _, c := range cases {
		checkWorse(t, c.a, c.b, c.want)
	}
}

func TestWorseAgainstTheModel(t *testing.T) {
	for _, list := range [][]impl.Drift{smallDrifts(9), edgeDrifts()} {
		for _, a := range list {
			for _, b := range list {
				checkWorse(t, a, b, wantWorse(a, b))
			}
		}
	}
}

func checkDrift(t *testing.T, d impl.Drift, numbers []int) {
	t.Helper()
	if got, want := impl.DriftOk(d), wantDriftOk(d); got != want {
		t.Fatalf("DriftOk(%v) is %v", d, got)
	}
	for _, x := range numbers {
		n, ok := impl.LeastTime(d, x)
		checkNum(t, "LeastTime", n, ok, wantTime(d, x, -1))
		n, ok = impl.MostTime(d, x)
		checkNum(t, "MostTime", n, ok, wantTime(d, x, 1))
		n, ok = impl.LeastCount(d, x)
		checkNum(t, "LeastCount", n, ok, wantCount(d, x, -1))
		n, ok = impl.MostCount(d, x)
		checkNum(t, "MostCount", n, ok, wantCount(d, x, 1))
		a, ok := impl.Between(d, x)
		checkPair(t, "Between", a, ok, wantBetween(d, x))
	}
}

func checkDriftByTwo(t *testing.T, d impl.Drift, numbers []int) {
	t.Helper()
	for _, x := range numbers {
		for _, y := range numbers {
			if got, want := impl.MayCount(d, x, y), wantMayCount(d, x, y); got != want {
				t.Fatalf("MayCount(%v, %d, %d) is %v", d, x, y, got)
			}
			n, ok := impl.Clamp(d, x, y)
			checkNum(t, "Clamp", n, ok, wantClamp(d, x, y))
		}
	}
}

// Every function of the chapter at every mixture of right and wrong arguments around its limits (P2 and P23).
func TestDriftsAgainstTheModel(t *testing.T) {
	small := smallNumbers()
	for n := 6; n <= 30; n++ {
		small = append(small, n)
	}
	for _, d := range smallDrifts(7) {
		checkDrift(t, d, small)
		checkDriftByTwo(t, d, small)
	}
	edges := append(edgeNumbers(), far/2-1, far/2, far/2+1, far/3*2, far/3*2+1, far/3*2+2, 750000000000, 750000000001, 800000000000, 800000000001)
	for _, d := range edgeDrifts() {
		checkDrift(t, d, edges)
		checkDriftByTwo(t, d, edges)
	}
}

// P2: the times of a count are those Between, and no others.
func TestTimesOfACountAreThoseBetween(t *testing.T) {
	for _, d := range smallDrifts(9) {
		for count := range 40 {
			a, ok := impl.Between(d, count)
			if ok != impl.DriftOk(d) {
				t.Fatalf("Between(%v, %d) is %v", d, count, ok)
			}
			for time := range 100 {
				if impl.MayCount(d, time, count) != (ok && impl.Holds(a, time)) {
					t.Fatalf("%d as a time of %d, by %v, and Between %v", time, count, d, a)
				}
			}
		}
	}
	for _, d := range edgeDrifts() {
		for _, count := range []int{0, 1, 2, 1000, far/3 - 1, far / 3, far / 2, far / 3 * 2, far - 1, far} {
			a, ok := impl.Between(d, count)
			if !ok {
				continue
			}
			for _, time := range []int{a.Lo - 1, a.Lo, a.Hi, a.Hi + 1} {
				if impl.MayCount(d, time, count) != impl.Holds(a, time) && time <= far {
					t.Fatalf("%d as a time of %d, by %v, and Between %v", time, count, d, a)
				}
			}
		}
	}
}

type stretch struct{ time, count int }

func stretchesOf(d impl.Drift, most int) []stretch {
	var list []stretch
	for time := range most + 1 {
		for count := range 2*most + 1 {
			if impl.MayCount(d, time, count) {
				list = append(list, stretch{time, count})
			}
		}
	}
	return list
}

// P2: what may be counted of two stretches may be counted of both together, and a time itself may always be counted.
func TestCountsOfTwoStretchesAddUp(t *testing.T) {
	for _, d := range smallDrifts(6) {
		list := stretchesOf(d, 12)
		if impl.DriftOk(d) && len(list) < 13 {
			t.Fatalf("by %v a time may not be counted as itself: %v", d, list)
		}
		for _, a := range list {
			for _, b := range list {
				if !impl.MayCount(d, a.time+b.time, a.count+b.count) {
					t.Fatalf("by %v %v and %v may be counted, but not both together", d, a, b)
				}
			}
		}
	}
	for _, d := range edgeDrifts() {
		for _, time := range []int{0, 1, 2, far / 3, far / 2, far} {
			if impl.MayCount(d, time, time) != impl.DriftOk(d) {
				t.Fatalf("%d counted as itself by %v", time, d)
			}
		}
	}
}

// P2: what is clamped may be counted, and no count that may be is nearer to what was wanted.
func TestClampedMayBeCounted(t *testing.T) {
	for _, d := range smallDrifts(7) {
		for time := range 25 {
			for want := -5; want <= 45; want++ {
				n, ok := impl.Clamp(d, time, want)
				if ok != impl.DriftOk(d) || impl.MayCount(d, time, n) != ok {
					t.Fatalf("Clamp(%v, %d, %d): %d, %v", d, time, want, n, ok)
				}
				for count := range 45 {
					if ok && impl.MayCount(d, time, count) && distance(count, want) < distance(n, want) {
						t.Fatalf("Clamp(%v, %d, %d) is %d, but %d is nearer", d, time, want, n, count)
					}
				}
			}
		}
	}
	for _, d := range edgeDrifts() {
		for _, time := range edgeNumbers() {
			for _, want := range edgeNumbers() {
				if n, ok := impl.Clamp(d, time, want); ok && !impl.MayCount(d, time, n) {
					t.Fatalf("Clamp(%v, %d, %d) is %d, which may not be counted", d, time, want, n)
				}
			}
		}
	}
}

func distance(x, y int) int { return max(x, y) - min(x, y) }
