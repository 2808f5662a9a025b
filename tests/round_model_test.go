package tests

import (
	"math"

	"loop.example/g00072/impl"
)

// What the document says of answers that come back, written again over numbers without bound.

func tr(from int, said impl.Ival, sent, got int) impl.Trip {
	return impl.Trip{From: from, Said: said, Sent: sent, Got: got}
}

type roundAnswer struct {
	a    impl.Ival
	code int
}

func wantRoundBound(d impl.Drift, said impl.Ival, trip int) roundAnswer {
	if !wantDriftOk(d) || !bigIvalOf(said).ok() || !bigTime(bigOf(trip)) {
		return roundAnswer{code: impl.RndBad}
	}
	most := wantTime(d, trip, 1)
	if !most.ok {
		return roundAnswer{code: impl.RndOver}
	}
	raised := answerOf(bigIval{bigOf(said.Lo), plus(bigOf(said.Hi), bigOf(most.n))}, true)
	if !raised.ok {
		return roundAnswer{code: impl.RndOver}
	}
	return roundAnswer{raised.a, impl.RndWell}
}

func wantTripOk(t impl.Trip) bool {
	sent, got := bigOf(t.Sent), bigOf(t.Got)
	return wantNode(t.From) && bigIvalOf(t.Said).ok() && bigTime(sent) && bigTime(got) && sent.Cmp(got) <= 0
}

func wantTripBound(d impl.Drift, t impl.Trip) roundAnswer {
	if !wantTripOk(t) {
		return roundAnswer{code: impl.RndBad}
	}
	return wantRoundBound(d, t.Said, t.Got-t.Sent)
}

func wantCarryTrip(d impl.Drift, t impl.Trip, at int) roundAnswer {
	came := wantTripBound(d, t)
	if came.code != impl.RndWell {
		return came
	}
	if !inRange(bigOf(at), t.Got, impl.MaxTime) {
		return roundAnswer{code: impl.RndBad}
	}
	now := wantCarryOn(loc(came.a.Lo, came.a.Hi, t.Got), d, at)
	if now.code == impl.LocOver {
		return roundAnswer{code: impl.RndOver}
	}
	return roundAnswer{now.a, impl.RndWell}
}

// The codes are asked for one by one over the whole list, in the order in which the document names them.
func wantTripsMeet(d impl.Drift, list []impl.Trip, at int) roundAnswer {
	if len(list) < 1 || len(list) > impl.MaxTrips {
		return roundAnswer{code: impl.RndBad}
	}
	var told []roundAnswer
	for _, t := range list {
		told = append(told, wantCarryTrip(d, t, at))
	}
	for _, code := range []int{impl.RndBad, impl.RndOver} {
		for _, one := range told {
			if one.code == code {
				return roundAnswer{code: code}
			}
		}
	}
	all := pairAnswer{told[0].a, true}
	for _, one := range told {
		all = wantMeet(all.a, one.a)
		if !all.ok {
			return roundAnswer{code: impl.RndEmpty}
		}
	}
	return roundAnswer{all.a, impl.RndWell}
}

func wantBestTrip(d impl.Drift, list []impl.Trip) int {
	best := -1
	for i, t := range list {
		one := wantTripBound(d, t)
		if len(list) > impl.MaxTrips || one.code != impl.RndWell {
			continue
		}
		if best < 0 || wantWide(one.a) < wantWide(wantTripBound(d, list[best]).a) {
			best = i
		}
	}
	return best
}

func wantTripLoss(d impl.Drift, t impl.Trip) int {
	one := wantTripBound(d, t)
	if one.code != impl.RndWell {
		return -1
	}
	return wantWide(one.a) - wantWide(t.Said)
}

func wantTripFits(d impl.Drift, t impl.Trip, sent, made, got int) bool {
	if !wantTripOk(t) || !wantDriftOk(d) {
		return false
	}
	if !bigTime(bigOf(sent)) || !inRange(bigOf(made), sent, got) || !bigTime(bigOf(got)) {
		return false
	}
	return wantHolds(t.Said, made) && wantMayCount(d, got-sent, t.Got-t.Sent)
}

// Right and wrong: From, Sent and Got at their limits and one beyond each, Sent around Got, and all of them at the outermost ints, with sayings that are right and wrong.
func edgeTrips() []impl.Trip {
	counts := []int{math.MinInt, -1, 0, 1, far/2 - 1, far / 2, far/2 + 1, far - 1, far, far + 1, math.MaxInt}
	var list []impl.Trip
	for _, sent := range counts {
		for _, got := range counts {
			for _, said := range edgeSayings() {
				list = append(list, tr(3, said, sent, got))
			}
		}
	}
	for _, from := range []int{math.MinInt, -1, 0, 1, impl.MaxNodes - 1, impl.MaxNodes, impl.MaxNodes + 1, math.MaxInt} {
		list = append(list, tr(from, iv(10, 12), 4, 10), tr(from, iv(12, 10), 4, 10), tr(from, iv(far, far), 4, 10))
	}
	return list
}

func edgeSayings() []impl.Ival {
	return []impl.Ival{
		iv(10, 12), iv(10, 10), iv(10, 9), iv(0, 0), iv(-8, -3),
		iv(-far, far), iv(-far, -far), iv(far, far), iv(-far-1, 0), iv(0, far+1), iv(-far, far-1), iv(-far, 0), iv(far-1, far-1),
		iv(math.MinInt, math.MaxInt), iv(math.MaxInt, math.MinInt), iv(math.MinInt, math.MinInt), iv(math.MaxInt, math.MaxInt),
	}
}
