package tests

import (
	"math"
	"slices"
	"testing"

	"loop.example/g00072/impl"
)

// The times at which an answer of this trip may have come, of all that lie below most.
func mayHaveCome(d impl.Drift, one impl.Trip, most int) map[int]bool {
	may := map[int]bool{}
	for sent := -1; sent < most; sent++ {
		for made := one.Said.Lo - 2; made <= one.Said.Hi+2; made++ {
			for got := made - 2; got < most; got++ {
				if impl.TripFits(d, one, sent, made, got) {
					may[got] = true
				}
			}
		}
	}
	return may
}

func checkJustThese(t *testing.T, what string, a impl.Ival, code int, may map[int]bool, most int) {
	t.Helper()
	if (code == impl.RndWell) != (len(may) > 0) {
		t.Fatalf("%s: code %d, and %d times may be", what, code, len(may))
	}
	for time := -9; time < most; time++ {
		if has := code == impl.RndWell && impl.Holds(a, time); has != may[time] {
			t.Fatalf("%s: %v; that it has %d is %v", what, a, time, has)
		}
	}
}

// P8: the bound of a trip has each time at which its answer may have come, and what is carried on each later one, by each stretch that an oscillator may count; and they have no other number, as there is room ahead of the saying for the whole round.
func TestBoundsHaveWhatMayBeAndNoMore(t *testing.T) {
	const most = 60
	for _, d := range smallDrifts(5) {
		later := stretchesOf(d, 14)
		for _, said := range []impl.Ival{iv(16, 16), iv(14, 17), iv(12, 13)} {
			for took := range 6 {
				one := tr(1, said, 7, 7+took)
				may := mayHaveCome(d, one, most)
				a, code := impl.TripBound(d, one)
				checkJustThese(t, "TripBound", a, code, may, most)
				a, code = impl.RoundBound(d, said, took)
				checkJustThese(t, "RoundBound", a, code, may, most)
				for gone := range 6 {
					then := map[int]bool{}
					for _, s := range later {
						for got := range may {
							if s.count == gone {
								then[got+s.time] = true
							}
						}
					}
					a, code := impl.CarryTrip(d, one, one.Got+gone)
					checkJustThese(t, "CarryTrip", a, code, then, most)
				}
			}
		}
	}
}

// P8 with the greatest numbers: the least and the most time of a round, said as early and as late as may be, from the first time on and up to the last.
func TestGreatRoundsHaveTheTimeAtWhichTheyCame(t *testing.T) {
	counts := []int{0, 1, 2, 3, 7, 1000, far / 7, far / 3, far/2 - 1, far / 2, far - 1, far}
	held := 0
	for _, d := range rightDrifts() {
		for _, took := range counts {
			least, low := impl.LeastTime(d, took)
			most, high := impl.MostTime(d, took)
			if !low || !high {
				continue
			}
			for _, round := range []int{least - 1, least, (least + most) / 2, most, most + 1} {
				for _, sent := range []int{0, 5, far - round - 1, far - round} {
					for _, made := range []int{sent, sent + round/2, sent + round} {
						held += checkGreatRound(t, d, took, sent, made, sent+round, round >= least && round <= most)
					}
				}
			}
		}
	}
	if held < 1000 {
		t.Fatal("bounds that were told", held)
	}
}

// How many bounds were told; where a round may have been so and none is told, there is no room for it.
func checkGreatRound(t *testing.T, d impl.Drift, took, sent, made, got int, may bool) int {
	t.Helper()
	held := 0
	for _, said := range []impl.Ival{iv(made, made), iv(-far, made), iv(made, far)} {
		one := tr(2, said, far-took, far)
		inTime := sent >= 0 && got >= sent && got <= far
		if fits := impl.TripFits(d, one, sent, made, got); fits != (may && inTime) {
			t.Fatalf("TripFits(%v, %v, %d, %d, %d) is %v", d, one, sent, made, got, fits)
		}
		a, code := impl.TripBound(d, one)
		if !may || !inTime || code == impl.RndOver {
			continue
		}
		held++
		if code != impl.RndWell || !impl.Holds(a, got) {
			t.Fatalf("TripBound(%v, %v): %v, %d, and it came at %d", d, one, a, code, got)
		}
	}
	return held
}

// One node that asks others along a walk of its oscillator, and what it has of their answers.
type voyager struct {
	t     *testing.T
	name  string
	o     impl.Osc
	trips []impl.Trip
	sent  impl.Osc
	said  impl.Ival
	made  int
}

func (v *voyager) goOn(by, want int) bool {
	next, ok := impl.OscStep(v.o, impl.Stride{By: by, Want: want})
	if ok {
		v.o = next
	}
	return ok
}

// The saying has true time at one of its ends, or between.
func (v *voyager) answerMade(step int) {
	now := v.o.Time
	v.made = now
	v.said = []impl.Ival{iv(now, now), iv(now, now+9), iv(now-9, now), iv(now-4, now+5), iv(-far, now+3)}[step%5]
}

// P8: the answer comes; it may have come so, and its bound has the time at which it came.
func (v *voyager) answerCame(step int) {
	v.t.Helper()
	one := tr(step%impl.MaxNodes, v.said, v.sent.Count, v.o.Count)
	if !impl.TripFits(v.o.Drift, one, v.sent.Time, v.made, v.o.Time) {
		v.t.Fatalf("%s by %v: %v does not fit %d, %d, %d", v.name, v.o.Drift, one, v.sent.Time, v.made, v.o.Time)
	}
	a, code := impl.TripBound(v.o.Drift, one)
	v.look("came", a, code)
	if loss := impl.TripLoss(v.o.Drift, one); code == impl.RndWell && impl.Wide(a)-impl.Wide(v.said) != loss {
		v.t.Fatalf("%s: %v of %v lost %d", v.name, a, v.said, loss)
	}
	v.trips = append(v.trips, one)
	if len(v.trips) > impl.MaxTrips {
		v.trips = v.trips[1:]
	}
}

func (v *voyager) look(how string, a impl.Ival, code int) {
	v.t.Helper()
	if code == impl.RndOver {
		return
	}
	if code != impl.RndWell || !impl.Holds(a, v.o.Time) {
		v.t.Fatalf("%s by %v: %s: %v, %d, and true time is %d", v.name, v.o.Drift, how, a, code, v.o.Time)
	}
}

// P8: at a later mark each that is carried on has true time, and so has what they have in common; nothing is wider for one more.
func (v *voyager) lookAtAll() int {
	v.t.Helper()
	told := 0
	for i, one := range v.trips {
		a, code := impl.CarryTrip(v.o.Drift, one, v.o.Count)
		v.look("carried on", a, code)
		both, code := impl.TripsMeet(v.o.Drift, v.trips[:i+1], v.o.Count)
		v.look("met", both, code)
		if code != impl.RndWell {
			return told
		}
		told++
		if !impl.Within(both, a) {
			v.t.Fatalf("%s by %v: %v is not within %v", v.name, v.o.Drift, both, a)
		}
		if i == 0 {
			continue
		}
		before, code := impl.TripsMeet(v.o.Drift, v.trips[:i], v.o.Count)
		if code != impl.RndWell || !impl.Within(both, before) {
			v.t.Fatalf("%s by %v: %v of %d trips, and %v, %d of one fewer", v.name, v.o.Drift, both, i+1, before, code)
		}
	}
	return told
}

func (v *voyager) askOnce(step int, by [3]int, tick func(step, by int) int) bool {
	v.sent = v.o
	if !v.goOn(by[0], tick(3*step, by[0])) {
		return false
	}
	v.answerMade(step)
	if !v.goOn(by[1], tick(3*step+1, by[1])) {
		return false
	}
	v.answerCame(step)
	return v.goOn(by[2], tick(3*step+2, by[2]))
}

func TestAnswersAlongAWalk(t *testing.T) {
	strides := []int{1, 2, 3, 0, 5, 1, 8, 0, 0, 13, 40, 7, 1000, 1, 999999, 6}
	for name, tick := range ticks() {
		for _, d := range rightDrifts() {
			v := &voyager{t: t, name: name, o: osc(d, 50, 7)}
			for step := range 30 {
				by := [3]int{strides[step%16], strides[(5*step+3)%16], strides[(3*step+1)%16]}
				if !v.askOnce(step, by, tick) {
					t.Fatalf("%s by %v ended at %v", name, d, v.o)
				}
				if told := v.lookAtAll(); told != len(v.trips) {
					t.Fatalf("%s by %v: %d told of %d", name, d, told, len(v.trips))
				}
			}
		}
	}
}

// Where counts and times end, what is told is either over or has true time.
func TestAnswersWhereTimeEnds(t *testing.T) {
	for name, tick := range ticks() {
		for _, d := range rightDrifts() {
			v := &voyager{t: t, name: name, o: osc(d, 0, 0)}
			told := 0
			for step := 0; v.askOnce(step, [3]int{far / 90, far / 70, far / 110}, tick); step++ {
				told += v.lookAtAll()
			}
			// A fast one has counted to the end ahead of the time, and much of what it was told is over by then.
			if told < 40 {
				t.Fatalf("%s by %v: %d told up to %v", name, d, told, v.o)
			}
		}
	}
}

// P8: one trip more, wherever it stands, never makes what trips have in common wider; what was not told is not told by it.
func TestOneTripMoreIsNeverWider(t *testing.T) {
	pool := []impl.Trip{
		tr(1, iv(10, 12), 4, 10), tr(2, iv(14, 16), 8, 10), tr(0, iv(20, 21), 10, 10), tr(3, iv(21, 30), 3, 9), tr(4, iv(-5, 11), 7, 9), tr(5, iv(-far, far-50), 0, 0),
		tr(6, iv(40, 41), 10, 10), tr(1, iv(far, far), 4, 10), tr(1, iv(12, 10), 4, 10), tr(7, iv(10, 12), 3, 14),
	}
	narrower := 0
	for _, d := range []impl.Drift{dr(0, 1), dr(1, 4), dr(1, 2), dr(2, 7)} {
		for _, at := range []int{9, 10, 12, 14, 20, far} {
			state := uint32(at + d.Den)
			for range 300 {
				var list []impl.Trip
				for len(list) <= impl.MaxTrips {
					state = state*1664525 + 1013904223
					one, place := pool[int(state>>9)%len(pool)], int(state>>20)%(len(list)+1)
					// Most of them must be right, or what is met would soon be nothing.
					if state>>28 > 2 {
						one = pool[int(state>>9)%3%2]
					}
					more := slices.Insert(slices.Clone(list), place, one)
					narrower += checkOneMore(t, d, list, more, at)
					list = more
				}
			}
		}
	}
	if narrower < 1000 {
		t.Fatal("narrower by one more", narrower)
	}
}

// 1 where the one more made what is met narrower.
func checkOneMore(t *testing.T, d impl.Drift, list, more []impl.Trip, at int) int {
	t.Helper()
	before, code := impl.TripsMeet(d, list, at)
	now, then := impl.TripsMeet(d, more, at)
	if then != impl.RndWell {
		if now != (impl.Ival{}) {
			t.Fatalf("TripsMeet(%v, %v, %d): %v beside %d", d, more, at, now, then)
		}
		return 0
	}
	if len(list) == 0 {
		return 0
	}
	if code != impl.RndWell || !impl.Within(now, before) {
		t.Fatalf("TripsMeet(%v, %v, %d): %v; and without one of them %v, %d", d, more, at, now, before, code)
	}
	if now != before {
		return 1
	}
	return 0
}

// What the trips have in common is in each one alone, and each number that is in all of them is in it.
func TestWhatTripsHaveInCommon(t *testing.T) {
	d := dr(1, 4)
	list := []impl.Trip{tr(1, iv(10, 12), 4, 10), tr(2, iv(14, 16), 8, 10), tr(3, iv(-5, 14), 6, 9), tr(4, iv(9, 19), 10, 10)}
	for from := range list {
		for to := from + 1; to <= len(list); to++ {
			for at := 10; at < 40; at++ {
				both, code := impl.TripsMeet(d, list[from:to], at)
				if code != impl.RndWell {
					t.Fatal("meet", list[from:to], at, code)
				}
				for time := -20; time < 120; time++ {
					inAll := true
					for _, one := range list[from:to] {
						a, _ := impl.CarryTrip(d, one, at)
						inAll = inAll && impl.Holds(a, time)
					}
					if impl.Holds(both, time) != inAll {
						t.Fatalf("%v at %d: %v; that %d is in all is %v", list[from:to], at, both, time, inAll)
					}
				}
			}
		}
	}
}

// The best trip is none wider than any other that is bounded, and narrower than each ahead of it.
func TestNoTripIsBetterThanTheBest(t *testing.T) {
	state := uint32(5)
	number := func(below int) int {
		state = state*1664525 + 1013904223
		return int(state>>8) % below
	}
	for range 3000 {
		var list []impl.Trip
		for range number(impl.MaxTrips + 1) {
			lo, sent := number(9)-4, number(12)
			list = append(list, tr(number(impl.MaxNodes+1), iv(lo, lo+number(5)-1), sent, sent+number(5)-1))
		}
		d := []impl.Drift{dr(0, 1), dr(1, 4), dr(1, 2)}[number(3)]
		best := impl.BestTrip(d, list)
		for i, one := range list {
			a, code := impl.TripBound(d, one)
			if code != impl.RndWell {
				continue
			}
			if best < 0 || best >= len(list) {
				t.Fatalf("BestTrip(%v, %v) is %d", d, list, best)
			}
			least, code := impl.TripBound(d, list[best])
			if code != impl.RndWell || impl.Wide(a) < impl.Wide(least) || i < best && impl.Wide(a) == impl.Wide(least) {
				t.Fatalf("BestTrip(%v, %v) is %d with %v, %d, and %d has %v", d, list, best, least, code, i, a)
			}
		}
	}
}

// P23: neither a list nor the spare room behind it is written into, and a call that is made again answers the same.
func TestTripsAreNotChanged(t *testing.T) {
	kinds := []impl.Trip{tr(1, iv(10, 12), 4, 10), tr(2, iv(14, 16), 8, 10), tr(1, iv(far, far), 4, 10), tr(-1, iv(12, 10), 5, 4), tr(3, iv(50, 52), 10, 10), tr(math.MaxInt, iv(math.MinInt, math.MaxInt), math.MaxInt, math.MinInt)}
	drifts := []impl.Drift{dr(1, 4), dr(0, 1), dr(3, 4), dr(math.MinInt, math.MaxInt)}
	for n := range impl.MaxTrips + 3 {
		for first := range kinds {
			var room []impl.Trip
			for i := range n {
				// Lists of one kind, and mixed ones.
				room = append(room, kinds[(first+i*(n%3))%len(kinds)])
			}
			room = append(room, tr(-7, iv(-7, -8), -7, -7), tr(-8, iv(-8, -9), -8, -8))
			kept := slices.Clone(room)
			for _, d := range drifts {
				for _, at := range []int{math.MinInt, -1, 9, 10, 20, far, far + 1, math.MaxInt} {
					want := wantTripsMeet(d, kept[:n], at)
					checkMeeting(t, d, room[:n], at, want)
					checkMeeting(t, d, room[:n], at, want)
				}
				best := wantBestTrip(d, kept[:n])
				checkBest(t, d, room[:n], best)
				checkBest(t, d, room[:n], best)
			}
			if !slices.Equal(room, kept) {
				t.Fatalf("%d trips were written into: %v", n, room)
			}
		}
	}
}

// What was answered stays as it is when the list is written over.
func TestTripAnswersShareNothing(t *testing.T) {
	d := dr(1, 4)
	list := []impl.Trip{tr(1, iv(10, 12), 4, 10), tr(2, iv(14, 16), 8, 10)}
	a, code := impl.TripsMeet(d, list, 10)
	b, alsoCode := impl.CarryTrip(d, list[0], 20)
	list[0], list[1] = impl.Trip{}, impl.Trip{}
	if (roundAnswer{a, code}) != came(14, 18) || (roundAnswer{b, alsoCode}) != came(18, 33) {
		t.Fatal("what was answered was changed", a, code, b, alsoCode)
	}
}
