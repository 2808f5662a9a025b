package tests

import (
	"math"
	"slices"
	"testing"

	"loop.example/g00072/impl"
)

func checkRound(t *testing.T, d impl.Drift, said impl.Ival, trip int, want roundAnswer) {
	t.Helper()
	a, code := impl.RoundBound(d, said, trip)
	if got := (roundAnswer{a, code}); got != want {
		t.Fatalf("RoundBound(%v, %v, %d): got %v, want %v", d, said, trip, got, want)
	}
}

// TripLoss tells of a trip no more than TripBound does, so both are asked.
func checkBound(t *testing.T, d impl.Drift, one impl.Trip, want roundAnswer) {
	t.Helper()
	a, code := impl.TripBound(d, one)
	if got := (roundAnswer{a, code}); got != want {
		t.Fatalf("TripBound(%v, %v): got %v, want %v", d, one, got, want)
	}
	loss := -1
	if want.code == impl.RndWell {
		loss = want.a.Hi - one.Said.Hi
	}
	if got := impl.TripLoss(d, one); got != loss {
		t.Fatalf("TripLoss(%v, %v) is %d, want %d", d, one, got, loss)
	}
}

func checkCarried(t *testing.T, d impl.Drift, one impl.Trip, at int, want roundAnswer) {
	t.Helper()
	a, code := impl.CarryTrip(d, one, at)
	if got := (roundAnswer{a, code}); got != want {
		t.Fatalf("CarryTrip(%v, %v, %d): got %v, want %v", d, one, at, got, want)
	}
}

func checkMeeting(t *testing.T, d impl.Drift, list []impl.Trip, at int, want roundAnswer) {
	t.Helper()
	a, code := impl.TripsMeet(d, list, at)
	if got := (roundAnswer{a, code}); got != want {
		t.Fatalf("TripsMeet(%v, %v, %d): got %v, want %v", d, list, at, got, want)
	}
}

func checkBest(t *testing.T, d impl.Drift, list []impl.Trip, want int) {
	t.Helper()
	if got := impl.BestTrip(d, list); got != want {
		t.Fatalf("BestTrip(%v, %v) is %d, want %d", d, list, got, want)
	}
}

func checkFits(t *testing.T, d impl.Drift, one impl.Trip, sent, made, got int, want bool) {
	t.Helper()
	if fits := impl.TripFits(d, one, sent, made, got); fits != want {
		t.Fatalf("TripFits(%v, %v, %d, %d, %d) is %v", d, one, sent, made, got, fits)
	}
}

func came(lo, hi int) roundAnswer { return roundAnswer{iv(lo, hi), impl.RndWell} }

func rndCode(code int) roundAnswer { return roundAnswer{code: code} }

func wrongDrifts() []impl.Drift {
	return slices.DeleteFunc(mixedDrifts(), func(d impl.Drift) bool { return wantDriftOk(d) })
}

type roundCase struct {
	d    impl.Drift
	said impl.Ival
	trip int
	want roundAnswer
}

// A round is asked by itself and as a trip, sent at 0 and, where there is room, as late as may be.
func checkRounds(t *testing.T, cases []roundCase) {
	t.Helper()
	for _, c := range cases {
		checkRound(t, c.d, c.said, c.trip, c.want)
		checkBound(t, c.d, tr(1, c.said, 0, c.trip), c.want)
		if c.trip >= 0 && c.trip <= far {
			checkBound(t, c.d, tr(1, c.said, far-c.trip, far), c.want)
		}
	}
}

func TestRoundsAtTheirLimits(t *testing.T) {
	d, still, half := dr(1, 4), dr(0, 1), dr(1, 2)
	bad, over := rndCode(impl.RndBad), rndCode(impl.RndOver)
	checkRounds(t, []roundCase{
		{d, iv(10, 12), 6, came(10, 20)},
		{d, iv(10, 12), 7, came(10, 21)},
		{d, iv(10, 12), 0, came(10, 12)},
		{d, iv(10, 12), 1, came(10, 13)},
		{half, iv(10, 12), 1, came(10, 14)},
		{still, iv(10, 12), 6, came(10, 18)},
		{d, iv(-9, -4), 6, came(-9, 4)},
		{dr(0, impl.MaxDen), iv(10, 12), 6, came(10, 18)},
		{dr(impl.MaxDen/2, impl.MaxDen), iv(10, 12), 6, came(10, 24)},
		// trip at 0 and MaxTime and one beyond each.
		{d, iv(10, 12), -1, bad},
		{still, iv(-far, 0), far, came(-far, far)},
		{still, iv(-far, -far), far, came(-far, 0)},
		{still, iv(-far, 0), far + 1, bad},
		{d, iv(10, 12), math.MinInt, bad},
		{d, iv(10, 12), math.MaxInt, bad},
		// Said with Lo at Hi and one above it, and its ends at the edges of what an interval is.
		{d, iv(10, 10), 6, came(10, 18)},
		{d, iv(10, 9), 6, bad},
		{d, iv(-far, far), 0, came(-far, far)},
		{d, iv(-far, -far), 6, came(-far, -far+8)},
		{d, iv(-far-1, -far), 6, bad},
		{d, iv(-far-1, -far-1), 6, bad},
		{d, iv(far, far), 0, came(far, far)},
		{d, iv(far, far+1), 0, bad},
		{d, iv(far+1, far+1), 0, bad},
		{d, iv(math.MinInt, math.MaxInt), 0, bad},
		{d, iv(math.MaxInt, math.MinInt), 0, bad},
		{d, iv(math.MaxInt, math.MaxInt), 6, bad},
		{d, iv(math.MinInt, math.MinInt), 6, bad},
		// Hi comes just to the greatest, and one above it.
		{d, iv(10, far-8), 6, came(10, far)},
		{d, iv(10, far-7), 6, over},
		{d, iv(far, far), 1, over},
		{d, iv(-far, far), 1, over},
		{still, iv(0, 0), far, came(0, far)},
		{still, iv(0, 1), far, over},
		{still, iv(-1, 0), far, came(-1, far)},
		// MostTime is just still told, and no more, though the sum would be an interval.
		{half, iv(-far, -far), far / 2, came(-far, 0)},
		{half, iv(-far, -far), far/2 + 1, over},
		{half, iv(-far, -far), far, over},
		{d, iv(-far, -5), 750000000000, came(-far, far-5)},
		{d, iv(-far, -5), 750000000001, over},
		{dr(1, impl.MaxDen), iv(-far, -far), far, over},
	})
	for _, wrong := range wrongDrifts() {
		checkRounds(t, []roundCase{{wrong, iv(10, 12), 6, bad}, {wrong, iv(10, 12), 0, bad}})
	}
}

// What is bad goes ahead of what is over.
func TestCodesOfRoundsInTheirOrder(t *testing.T) {
	d, wrong, still := dr(1, 4), dr(3, 4), dr(0, 1)
	bad, over := rndCode(impl.RndBad), rndCode(impl.RndOver)
	checkRounds(t, []roundCase{
		{d, iv(far, far), 6, over},
		{wrong, iv(far, far), 6, bad},
		{still, iv(far, far), far + 1, bad},
		{d, iv(far, far+1), 6, bad},
		{d, iv(far+1, far), 6, bad},
		{d, iv(far, far), far, over},
		{wrong, iv(far, far), far, bad},
		{d, iv(2, 1), far, bad},
	})
	// A wrong trip is bad also where its saying would be over.
	for _, one := range []impl.Trip{tr(-1, iv(far, far), 4, 10), tr(impl.MaxNodes, iv(far, far), 4, 10), tr(1, iv(far, far), -1, 10), tr(1, iv(far, far), 4, far+1), tr(1, iv(0, far+1), 4, 10), tr(1, iv(far, far), 11, 10)} {
		checkBound(t, d, one, bad)
		checkBound(t, wrong, one, bad)
	}
}

func TestTripOkAtItsLimits(t *testing.T) {
	said := iv(10, 12)
	cases := []struct {
		one  impl.Trip
		want bool
	}{
		{tr(1, said, 4, 10), true},
		{impl.Trip{}, true},
		{tr(0, said, 4, 10), true},
		{tr(-1, said, 4, 10), false},
		{tr(impl.MaxNodes-1, said, 4, 10), true},
		{tr(impl.MaxNodes, said, 4, 10), false},
		{tr(math.MinInt, said, 4, 10), false},
		{tr(math.MaxInt, said, 4, 10), false},
		{tr(1, iv(10, 10), 4, 10), true},
		{tr(1, iv(10, 9), 4, 10), false},
		{tr(1, iv(-far, far), 4, 10), true},
		{tr(1, iv(-far-1, far), 4, 10), false},
		{tr(1, iv(-far, far+1), 4, 10), false},
		{tr(1, iv(far+1, far+1), 4, 10), false},
		{tr(1, iv(-far-1, -far-1), 4, 10), false},
		{tr(1, iv(math.MinInt, math.MaxInt), 4, 10), false},
		{tr(1, said, 10, 10), true},
		{tr(1, said, 11, 10), false},
		{tr(1, said, 0, 10), true},
		{tr(1, said, -1, 10), false},
		{tr(1, said, 0, 0), true},
		{tr(1, said, 1, 0), false},
		{tr(1, said, -1, 0), false},
		{tr(1, said, -1, -1), false},
		{tr(1, said, 0, far), true},
		{tr(1, said, far, far), true},
		{tr(1, said, far, far-1), false},
		{tr(1, said, 0, far+1), false},
		{tr(1, said, far+1, far+1), false},
		{tr(1, said, math.MinInt, 10), false},
		{tr(1, said, math.MaxInt, 10), false},
		{tr(1, said, 4, math.MinInt), false},
		{tr(1, said, 4, math.MaxInt), false},
		{tr(1, said, math.MinInt, math.MaxInt), false},
		{tr(1, said, math.MaxInt, math.MinInt), false},
	}
	for _, c := range cases {
		if got := impl.TripOk(c.one); got != c.want {
			t.Errorf("TripOk(%v) is %v", c.one, got)
		}
		// Each that is right is bounded here, and no other is.
		if _, code := impl.TripBound(dr(0, 1), c.one); (code != impl.RndBad) != c.want {
			t.Errorf("TripBound of %v is %d", c.one, code)
		}
		if !c.want {
			checkBound(t, dr(0, 1), c.one, rndCode(impl.RndBad))
		}
	}
}

type carriedCase struct {
	d    impl.Drift
	one  impl.Trip
	at   int
	want roundAnswer
}

// A trip alone is met with itself, and told as it is carried on.
func checkCarriedCases(t *testing.T, cases []carriedCase) {
	t.Helper()
	for _, c := range cases {
		checkCarried(t, c.d, c.one, c.at, c.want)
		checkMeeting(t, c.d, []impl.Trip{c.one}, c.at, c.want)
		checkMeeting(t, c.d, []impl.Trip{c.one, c.one}, c.at, c.want)
	}
}

func TestCarriedTripsAtTheirLimits(t *testing.T) {
	d, still, half := dr(1, 4), dr(0, 1), dr(1, 2)
	bad, over := rndCode(impl.RndBad), rndCode(impl.RndOver)
	x := tr(1, iv(10, 12), 4, 10)
	checkCarriedCases(t, []carriedCase{
		{d, x, 20, came(18, 33)},
		{d, x, 11, came(11, 21)},
		// at just at Got and one below it.
		{d, x, 10, came(10, 20)},
		{d, x, 9, bad},
		{d, x, 4, bad},
		{d, x, 0, bad},
		{d, x, -1, bad},
		{still, x, 20, came(20, 28)},
		{half, x, 20, came(17, 44)},
		{d, tr(1, iv(-9, -4), 4, 10), 20, came(-1, 17)},
		// Got and at at 0 and MaxTime, and one beyond each.
		{d, tr(1, iv(10, 12), 0, 0), 0, came(10, 12)},
		{d, tr(1, iv(10, 12), 0, 0), -1, bad},
		{d, tr(1, iv(10, 12), far, far), far, came(10, 12)},
		{d, tr(1, iv(10, 12), far, far), far - 1, bad},
		{d, tr(1, iv(10, 12), far, far), far + 1, bad},
		{d, tr(1, iv(10, 12), far-1, far-1), far, came(11, 13)},
		{d, tr(1, iv(10, 12), far-6, far), far, came(10, 20)},
		{still, tr(1, iv(0, 0), 0, 0), far, came(far, far)},
		{still, tr(1, iv(-far, 0), 0, 0), far, came(0, far)},
		{still, tr(1, iv(-far, -5), 0, 5), far, came(-5, far-5)},
		{d, x, far + 1, bad},
		{d, x, math.MinInt, bad},
		{d, x, math.MaxInt, bad},
		// Hi comes just to the greatest, and one above it.
		{d, tr(1, iv(10, far-21), 4, 10), 20, came(18, far)},
		{d, tr(1, iv(10, far-20), 4, 10), 20, over},
		{d, tr(1, iv(10, far-8), 4, 10), 10, came(10, far)},
		{d, tr(1, iv(10, far-8), 4, 10), 11, over},
		{d, tr(1, iv(far-8, far-8), 4, 10), 11, over},
		{still, tr(1, iv(0, 1), 0, 0), far, over},
		{still, tr(1, iv(0, 0), 0, 1), far, came(far-1, far)},
		// Between is just still told, and no more, though the sum would be an interval.
		{half, tr(1, iv(-far, -far), 0, 0), far / 2, came(333333333334-far, 0)},
		{half, tr(1, iv(-far, -far), 0, 0), far/2 + 1, over},
		{half, tr(1, iv(-far, -far), 7, 7), far/2 + 7, came(333333333334-far, 0)},
		{half, tr(1, iv(-far, -far), 7, 7), far, over},
	})
}

// Of one trip: TripBound's code, RndBad for at, RndOver.
func TestCodesOfCarriedTripsInTheirOrder(t *testing.T) {
	d, wrong := dr(1, 4), dr(3, 4)
	bad, over := rndCode(impl.RndBad), rndCode(impl.RndOver)
	high := tr(1, iv(far, far), 4, 10)
	var cases []carriedCase
	for _, at := range []int{math.MinInt, -1, 0, 9, 10, 11, far, far + 1, math.MaxInt} {
		// The bound itself is over, which goes ahead of what is wrong with at.
		cases = append(cases, carriedCase{d, high, at, over}, carriedCase{wrong, high, at, bad})
		for _, one := range []impl.Trip{tr(-1, iv(far, far), 4, 10), tr(impl.MaxNodes, iv(far, far), 4, 10), tr(1, iv(far, far+1), 4, 10), tr(1, iv(2, 1), 4, 10), tr(1, iv(far, far), -1, 10), tr(1, iv(far, far), 10, 9), tr(1, iv(10, 12), 4, far+1)} {
			cases = append(cases, carriedCase{d, one, at, bad})
		}
	}
	// The bound is well, and would be over when it is carried on; but at is wrong.
	edge := tr(1, iv(far, far), 10, 10)
	cases = append(cases, carriedCase{d, edge, 10, came(far, far)}, carriedCase{d, edge, 11, over}, carriedCase{d, edge, 9, bad}, carriedCase{d, edge, far, over}, carriedCase{d, edge, far + 1, bad}, carriedCase{d, edge, math.MaxInt, bad})
	for _, drift := range wrongDrifts() {
		cases = append(cases, carriedCase{drift, tr(1, iv(10, 12), 4, 10), 20, bad}, carriedCase{drift, edge, 11, bad}, carriedCase{drift, high, 9, bad})
	}
	checkCarriedCases(t, cases)
}

// The same trips in every order: as they stand, turned round, and each one put at the front.
func orders(list []impl.Trip) [][]impl.Trip {
	all := [][]impl.Trip{list}
	back := slices.Clone(list)
	slices.Reverse(back)
	all = append(all, back)
	for i := range list {
		all = append(all, slices.Concat(list[i:], list[:i]), slices.Concat(back[i:], back[:i]))
	}
	return all
}

func TestTripsThatMeet(t *testing.T) {
	d := dr(1, 4)
	x, y := tr(1, iv(10, 12), 4, 10), tr(2, iv(14, 16), 8, 10)
	cases := []struct {
		list []impl.Trip
		at   int
		want roundAnswer
	}{
		{[]impl.Trip{x}, 10, came(10, 20)},
		{[]impl.Trip{y}, 10, came(14, 18)},
		{[]impl.Trip{x, y}, 10, came(14, 18)},
		{[]impl.Trip{x, y}, 20, came(22, 31)},
		{[]impl.Trip{x, tr(1, iv(20, 21), 10, 10)}, 10, came(20, 20)},
		{[]impl.Trip{x, tr(1, iv(21, 22), 10, 10)}, 10, rndCode(impl.RndEmpty)},
		{[]impl.Trip{x, tr(1, iv(8, 8), 9, 10)}, 10, rndCode(impl.RndEmpty)},
		{[]impl.Trip{x, tr(1, iv(9, 9), 9, 10)}, 10, came(10, 10)},
		{[]impl.Trip{x, y, tr(1, iv(0, 2), 10, 10)}, 10, rndCode(impl.RndEmpty)},
		// Two by two they meet, which of intervals is enough.
		{[]impl.Trip{x, y, tr(5, iv(-7, 13), 8, 10)}, 10, came(14, 15)},
		{[]impl.Trip{x, y, tr(5, iv(-7, 11), 8, 10)}, 10, rndCode(impl.RndEmpty)},
		// Of trips that came at several counts each is carried on from its own.
		{[]impl.Trip{x, tr(2, iv(11, 13), 11, 13)}, 13, came(13, 15)},
		{[]impl.Trip{x, tr(2, iv(11, 13), 11, 13)}, 12, rndCode(impl.RndBad)},
		{[]impl.Trip{x, tr(2, iv(10, 12), 4, 10)}, 20, came(18, 33)},
		// The same node may have answered often.
		{[]impl.Trip{x, x, x}, 10, came(10, 20)},
	}
	for _, c := range cases {
		for _, list := range orders(c.list) {
			checkMeeting(t, d, list, c.at, c.want)
		}
	}
}

func TestNumbersOfTrips(t *testing.T) {
	d := dr(1, 4)
	x := tr(1, iv(10, 12), 4, 10)
	bad := rndCode(impl.RndBad)
	for _, none := range [][]impl.Trip{nil, {}} {
		checkMeeting(t, d, none, 10, bad)
		checkBest(t, d, none, -1)
	}
	for n := 1; n <= impl.MaxTrips+3; n++ {
		// The last one is the narrowest, so that none is passed over.
		list := slices.Repeat([]impl.Trip{x}, n)
		list[n-1] = tr(2, iv(14, 16), 8, 10)
		want, best := came(14, 18), n-1
		if n > impl.MaxTrips {
			want, best = bad, -1
		}
		checkMeeting(t, d, list, 10, want)
		checkBest(t, d, list, best)
	}
	// Too many are bad, whatever else they are.
	for _, one := range []impl.Trip{tr(1, iv(far, far), 4, 10), tr(-1, iv(10, 12), 4, 10)} {
		checkMeeting(t, d, slices.Repeat([]impl.Trip{one}, impl.MaxTrips+1), 10, bad)
		checkBest(t, d, slices.Repeat([]impl.Trip{one}, impl.MaxTrips+1), -1)
	}
	checkMeeting(t, d, slices.Repeat([]impl.Trip{x}, 1000), 10, bad)
	checkBest(t, d, slices.Repeat([]impl.Trip{x}, 1000), -1)
}

// Of many trips: RndBad of any goes ahead of RndOver of any, and that ahead of RndEmpty, whichever stands first.
func TestCodesOfManyTripsInTheirOrder(t *testing.T) {
	d := dr(1, 4)
	x, apart := tr(1, iv(10, 12), 4, 10), tr(2, iv(50, 52), 10, 10)
	bads := []impl.Trip{tr(-1, iv(10, 12), 4, 10), tr(impl.MaxNodes, iv(10, 12), 4, 10), tr(1, iv(12, 10), 4, 10), tr(1, iv(10, far+1), 4, 10), tr(1, iv(10, 12), 11, 10), tr(1, iv(10, 12), -1, 10), tr(1, iv(10, 12), 4, 11), tr(1, iv(10, 12), 4, far+1)}
	// Over when it came, and over when it is carried on to 10.
	overs := []impl.Trip{tr(1, iv(far, far), 4, 10), tr(1, iv(far, far), 9, 9), tr(1, iv(far, far), 4, far)}
	for _, over := range overs {
		for _, list := range orders([]impl.Trip{x, over}) {
			checkMeeting(t, d, list, 10, rndCode(impl.RndOver))
		}
		for _, list := range orders([]impl.Trip{x, apart, over}) {
			checkMeeting(t, d, list, 10, rndCode(impl.RndOver))
		}
		for _, bad := range bads {
			for _, list := range orders([]impl.Trip{x, apart, over, bad}) {
				checkMeeting(t, d, list, 10, rndCode(impl.RndBad))
			}
			for _, list := range orders([]impl.Trip{over, bad}) {
				checkMeeting(t, d, list, 10, rndCode(impl.RndBad))
			}
		}
	}
	for _, bad := range bads {
		for _, list := range orders([]impl.Trip{x, apart, bad}) {
			checkMeeting(t, d, list, 10, rndCode(impl.RndBad))
		}
	}
	for _, list := range orders([]impl.Trip{x, apart}) {
		checkMeeting(t, d, list, 10, rndCode(impl.RndEmpty))
		for _, wrong := range wrongDrifts() {
			checkMeeting(t, wrong, list, 10, rndCode(impl.RndBad))
		}
		checkMeeting(t, d, list, 9, rndCode(impl.RndBad))
		checkMeeting(t, d, list, far+1, rndCode(impl.RndBad))
	}
	// The bound of a trip that is over is so ahead of at, and the at of the other is wrong.
	for _, list := range orders([]impl.Trip{overs[0], x}) {
		checkMeeting(t, d, list, 9, rndCode(impl.RndBad))
	}
	checkMeeting(t, d, []impl.Trip{overs[0], overs[0]}, 9, rndCode(impl.RndOver))
	full := slices.Repeat([]impl.Trip{x}, impl.MaxTrips)
	for i := range full {
		list := slices.Clone(full)
		list[i] = bads[0]
		checkMeeting(t, d, list, 10, rndCode(impl.RndBad))
		list[i] = overs[0]
		checkMeeting(t, d, list, 10, rndCode(impl.RndOver))
		list[i] = apart
		checkMeeting(t, d, list, 10, rndCode(impl.RndEmpty))
	}
}

func TestTheBestTrip(t *testing.T) {
	d := dr(1, 4)
	// Their bounds are 10, 4, 4, 2 and 0 wide.
	wide, four, alsoFour, two, none := tr(1, iv(10, 12), 4, 10), tr(2, iv(14, 16), 8, 10), tr(3, iv(-90, -86), 7, 7), tr(0, iv(5, 7), far, far), tr(impl.MaxNodes-1, iv(far, far), 3, 3)
	over, bad := tr(1, iv(far, far), 4, 10), tr(1, iv(10, 10), 5, 4)
	cases := []struct {
		list []impl.Trip
		want int
	}{
		{[]impl.Trip{wide}, 0},
		{[]impl.Trip{wide, four}, 1},
		{[]impl.Trip{four, wide}, 0},
		// Of equally narrow ones the first.
		{[]impl.Trip{wide, four, alsoFour}, 1},
		{[]impl.Trip{wide, alsoFour, four}, 1},
		{[]impl.Trip{four, wide, alsoFour}, 0},
		{[]impl.Trip{four, four}, 0},
		{[]impl.Trip{wide, wide, wide}, 0},
		{[]impl.Trip{four, two, alsoFour, two}, 1},
		{[]impl.Trip{none, none, two}, 0},
		{[]impl.Trip{two, none}, 1},
		// Those with a code are passed over.
		{[]impl.Trip{over}, -1},
		{[]impl.Trip{bad}, -1},
		{[]impl.Trip{bad, over, bad}, -1},
		{[]impl.Trip{bad, over, wide}, 2},
		{[]impl.Trip{over, wide, bad}, 1},
		{[]impl.Trip{wide, over, bad, four}, 3},
	}
	for _, c := range cases {
		checkBest(t, d, c.list, c.want)
		for _, wrong := range wrongDrifts() {
			checkBest(t, wrong, c.list, -1)
		}
	}
	// A drift that is greater may make another one the best.
	short, long := tr(1, iv(10, 20), 4, 5), tr(1, iv(10, 14), 4, 10)
	checkBest(t, dr(0, 1), []impl.Trip{short, long}, 1)
	checkBest(t, dr(1, 2), []impl.Trip{short, long}, 0)
	for i := range impl.MaxTrips {
		list := slices.Repeat([]impl.Trip{wide}, impl.MaxTrips)
		list[i] = four
		checkBest(t, d, list, i)
		list = slices.Repeat([]impl.Trip{over}, impl.MaxTrips)
		list[i] = wide
		checkBest(t, d, list, i)
	}
}

func TestFittingAtItsLimits(t *testing.T) {
	d := dr(1, 4)
	// 6 counts last from 5 to 8.
	x := tr(1, iv(10, 12), 4, 10)
	cases := []struct {
		sent, made, got int
		want            bool
	}{
		{5, 11, 11, true},
		{5, 13, 14, false},
		{5, 11, 15, false},
		// The least time of the counts and the most, and one beyond each.
		{6, 11, 11, true},
		{7, 11, 11, false},
		{6, 11, 14, true},
		{6, 11, 15, false},
		{11, 11, 16, true},
		{11, 11, 15, false},
		// sent, made and got equal two by two, and one below.
		{11, 11, 17, true},
		{12, 11, 17, false},
		{4, 11, 11, true},
		{4, 11, 10, false},
		{11, 11, 11, false},
		// made at the ends of Said and one beside each.
		{6, 10, 13, true},
		{6, 9, 13, false},
		{6, 12, 13, true},
		{6, 13, 13, false},
		{3, 10, 10, true},
		{12, 12, 20, true},
		{13, 13, 20, false},
		{-1, 10, 7, false},
		{-1, 11, 6, false},
		{math.MinInt, 11, 12, false},
		{6, math.MinInt, 12, false},
		{6, 11, math.MinInt, false},
		{math.MaxInt, 11, 12, false},
		{6, math.MaxInt, 12, false},
		{6, 11, math.MaxInt, false},
		{math.MinInt, 11, math.MaxInt, false},
		{math.MaxInt, math.MaxInt, math.MaxInt, false},
		{math.MinInt, math.MinInt, math.MinInt, false},
	}
	for _, c := range cases {
		checkFits(t, d, x, c.sent, c.made, c.got, c.want)
		checkFits(t, d, tr(0, x.Said, 0, 6), c.sent, c.made, c.got, c.want)
		checkFits(t, d, tr(impl.MaxNodes-1, x.Said, far-6, far), c.sent, c.made, c.got, c.want)
		for _, wrong := range wrongDrifts() {
			checkFits(t, wrong, x, c.sent, c.made, c.got, false)
		}
		for _, one := range []impl.Trip{tr(-1, x.Said, 4, 10), tr(impl.MaxNodes, x.Said, 4, 10), tr(1, iv(12, 10), 4, 10), tr(1, iv(10, far+1), 4, 10), tr(1, iv(-far-1, 12), 4, 10), tr(1, x.Said, -1, 5), tr(1, x.Said, far-5, far+1), tr(1, x.Said, 10, 4)} {
			checkFits(t, d, one, c.sent, c.made, c.got, false)
		}
	}
}

// Got less Sent at the least and the most that may be counted in a time, and one beyond each.
func TestFittingCountsAtTheirLimits(t *testing.T) {
	for _, d := range append(rightDrifts(), dr(1, 4)) {
		for _, time := range []int{0, 1, 2, 3, 8, 9, 1000, 666666666666, far/3*2 - 1} {
			least, most := wantCount(d, time, -1), wantCount(d, time, 1)
			if !least.ok || !most.ok {
				t.Fatal("counts", d, time)
			}
			for _, counted := range []int{least.n - 1, least.n, (least.n + most.n) / 2, most.n, most.n + 1} {
				may := counted >= least.n && counted <= most.n
				checkFits(t, d, tr(1, iv(9, far), 0, counted), 9, 9, 9+time, may)
				checkFits(t, d, tr(1, iv(9, far), far-counted, far), 9, 9+time, 9+time, may)
			}
		}
	}
	// 8 times are counted as 6 to 10.
	for counted, may := range map[int]bool{5: false, 6: true, 7: true, 8: true, 9: true, 10: true, 11: false} {
		checkFits(t, dr(1, 4), tr(1, iv(10, 12), 4, 4+counted), 6, 11, 14, may)
	}
}

func TestFittingWhereTimeEnds(t *testing.T) {
	d, still := dr(1, 4), dr(0, 1)
	cases := []struct {
		d               impl.Drift
		one             impl.Trip
		sent, made, got int
		want            bool
	}{
		{d, impl.Trip{}, 0, 0, 0, true},
		{d, impl.Trip{}, 0, 0, 1, false},
		{d, impl.Trip{}, -1, 0, 0, false},
		{d, impl.Trip{}, -1, 0, -1, false},
		{d, tr(1, iv(-1, 0), 5, 5), 0, 0, 0, true},
		{d, tr(1, iv(-1, 0), 5, 5), -1, -1, -1, false},
		{d, tr(1, iv(-1, 0), 5, 5), -1, -1, 0, false},
		{d, tr(1, iv(far, far), 5, 5), far, far, far, true},
		{d, tr(1, iv(far-1, far), 5, 5), far - 1, far - 1, far - 1, true},
		{d, tr(1, iv(far, far), 5, 6), far - 1, far, far, true},
		{d, tr(1, iv(far, far), 5, 6), far, far, far + 1, false},
		{d, tr(1, iv(far-1, far), 5, 6), far - 1, far - 1, far, true},
		{d, tr(1, iv(far, far), 5, 5), far + 1, far + 1, far + 1, false},
		{still, tr(1, iv(-far, far), 0, far), 0, 0, far, true},
		{still, tr(1, iv(-far, far), 0, far), 0, far, far, true},
		{still, tr(1, iv(-far, far), 0, far), 0, 7, far, true},
		{still, tr(1, iv(-far, far), 0, far), 1, 7, far, false},
		{still, tr(1, iv(-far, far), 0, far), 0, 7, far - 1, false},
		{still, tr(1, iv(-far, far), 0, far), -1, 7, far - 1, false},
		{still, tr(1, iv(-far, far), 0, far), 1, 7, far + 1, false},
		{still, tr(1, iv(-far, far), 1, far), 0, 7, far - 1, true},
		{still, tr(1, iv(-far, far), 0, far-1), 1, 7, far, true},
		{still, tr(1, iv(-far, far), 0, far-1), 0, 7, far, false},
	}
	for _, c := range cases {
		checkFits(t, c.d, c.one, c.sent, c.made, c.got, c.want)
	}
}

// Every function of one trip at every mixture of right and wrong arguments around its limits (P8 and P23).
func TestTripsAgainstTheModel(t *testing.T) {
	ats := []int{math.MinInt, -1, 0, 1, 9, 10, far / 2, far - 1, far, far + 1, math.MaxInt}
	for _, one := range edgeTrips() {
		if got, want := impl.TripOk(one), wantTripOk(one); got != want {
			t.Fatalf("TripOk(%v) is %v", one, got)
		}
		for _, d := range mixedDrifts() {
			checkBound(t, d, one, wantTripBound(d, one))
			if got, want := impl.TripLoss(d, one), wantTripLoss(d, one); got != want {
				t.Fatalf("TripLoss(%v, %v) is %d, want %d", d, one, got, want)
			}
		}
		for _, d := range []impl.Drift{dr(0, 1), dr(1, 4), dr(1, 2), dr(1, 1)} {
			for _, at := range ats {
				checkCarried(t, d, one, at, wantCarryTrip(d, one, at))
			}
		}
	}
}

func TestRoundBoundAgainstTheModel(t *testing.T) {
	numbers := []int{math.MinInt, -far - 1, -far, -1, 0, 1, far - 1, far, far + 1, math.MaxInt}
	for _, d := range mixedDrifts() {
		for _, said := range append(ivalsOf(numbers), edgeSayings()...) {
			for _, trip := range []int{math.MinInt, -1, 0, 1, 2, far / 2, far/2 + 1, far - 1, far, far + 1, math.MaxInt} {
				checkRound(t, d, said, trip, wantRoundBound(d, said, trip))
			}
		}
	}
}

func TestFittingAgainstTheModel(t *testing.T) {
	times := []int{math.MinInt, -1, 0, 1, 10, 11, 12, 13, far - 1, far, far + 1, math.MaxInt}
	trips := []impl.Trip{{}, tr(1, iv(10, 12), 4, 10), tr(1, iv(10, 12), 4, 4), tr(1, iv(-far, far), 0, 1), tr(1, iv(-far, far), 0, far), tr(1, iv(-far, far), 3, far-8), tr(1, iv(far-1, far), far-1, far), tr(-1, iv(10, 12), 4, 4), tr(1, iv(12, 10), 4, 4), tr(1, iv(-far, far+1), 4, 4), tr(1, iv(10, 12), 5, 4), tr(1, iv(10, 12), math.MinInt, math.MaxInt), tr(1, iv(10, 12), math.MaxInt, math.MinInt)}
	for _, one := range trips {
		for _, d := range mixedDrifts() {
			for _, sent := range times {
				for _, made := range times {
					for _, got := range times {
						checkFits(t, d, one, sent, made, got, wantTripFits(d, one, sent, made, got))
					}
				}
			}
		}
	}
}

// Every list of up to three of these trips, right and wrong.
func TestManyTripsAgainstTheModel(t *testing.T) {
	pool := []impl.Trip{
		tr(1, iv(10, 12), 4, 10), tr(2, iv(14, 16), 8, 10), tr(0, iv(20, 21), 10, 10), tr(3, iv(21, 30), 3, 9), tr(4, iv(-5, 11), 7, 9), tr(impl.MaxNodes-1, iv(18, 18), 12, 13),
		tr(1, iv(far, far), 4, 10), tr(1, iv(far, far), 9, 9), tr(-1, iv(10, 12), 4, 10), tr(1, iv(12, 10), 4, 10), tr(1, iv(10, 12), 11, 10),
	}
	lists := [][]impl.Trip{nil}
	for from := 0; from < len(lists); from++ {
		if len(lists[from]) == 3 {
			break
		}
		for _, one := range pool {
			lists = append(lists, append(slices.Clone(lists[from]), one))
		}
	}
	if len(lists) != 1+11+121+1331 {
		t.Fatal("lists", len(lists))
	}
	for _, list := range lists {
		for _, d := range []impl.Drift{dr(1, 4), dr(0, 1), dr(3, 4)} {
			checkBest(t, d, list, wantBestTrip(d, list))
			for _, at := range []int{-1, 8, 9, 10, 13, 20, far, far + 1} {
				checkMeeting(t, d, list, at, wantTripsMeet(d, list, at))
			}
		}
	}
}
