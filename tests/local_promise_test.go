package tests

import (
	"math"
	"slices"
	"testing"

	"loop.example/g00072/impl"
)

// The oscillators of P6: at both ends of their drift, between them, and now one, now the other.
func ticks() map[string]func(step, by int) int {
	return map[string]func(step, by int) int{
		"slowest":    func(step, by int) int { return math.MinInt },
		"fastest":    func(step, by int) int { return math.MaxInt },
		"right":      func(step, by int) int { return by },
		"a bit slow": func(step, by int) int { return by - by/9 },
		"by turns": func(step, by int) int {
			if step%2 == 0 {
				return math.MinInt
			}
			return math.MaxInt
		},
		"in blocks": func(step, by int) int {
			if step/7%2 == 0 {
				return math.MaxInt
			}
			return math.MinInt
		},
	}
}

func rightDrifts() []impl.Drift {
	return slices.DeleteFunc(append(smallDrifts(7), mixedDrifts()...), func(d impl.Drift) bool { return !impl.DriftOk(d) })
}

// P6: from each true time in a bound, by each stretch that an oscillator may count, what is carried on has the later time; and it has no number that is not such a time.
func TestCarriedOnHasTrueTimeAndNoMore(t *testing.T) {
	for _, d := range smallDrifts(6) {
		list := stretchesOf(d, 14)
		for _, bound := range []impl.Ival{iv(0, 0), iv(-3, 2), iv(5, 9), iv(-8, -8)} {
			l, ok := impl.Learn(bound, 20)
			if !ok {
				t.Fatal("learn", bound)
			}
			for gone := range 7 {
				may := map[int]bool{}
				for _, s := range list {
					for from := bound.Lo; s.count == gone && from <= bound.Hi; from++ {
						may[from+s.time] = true
					}
				}
				now, code := impl.CarryOn(l, d, 20+gone)
				if (code == impl.LocWell) != impl.DriftOk(d) {
					t.Fatalf("CarryOn(%v, %v, %d): %d", l, d, 20+gone, code)
				}
				for time := -30; time <= 60; time++ {
					if has := code == impl.LocWell && impl.Holds(now, time); has != may[time] {
						t.Fatalf("%v by %v, %d counts on: %v; that it has %d is %v", l, d, gone, now, time, has)
					}
				}
			}
		}
	}
}

type tracked struct {
	t    *testing.T
	name string
	o    impl.Osc
	// Since the beginning, from mark to mark, and narrowed now and then: three intervals of one node.
	first, stepped, narrow impl.Local
}

// The oscillator goes on by a stretch of true time; each interval of the node must have what is then true time.
func (k *tracked) goOn(by, want, step int) bool {
	next, ok := impl.OscStep(k.o, impl.Stride{By: by, Want: want})
	if !ok {
		return false
	}
	k.o = next
	whole, code := impl.CarryOn(k.first, k.o.Drift, k.o.Count)
	if code == impl.LocOver {
		return false
	}
	k.look("carried on", whole, code)
	k.stepped, code = impl.Rebase(k.stepped, k.o.Drift, k.o.Count)
	k.look("rebased", k.stepped.Bound, code)
	// What is heard from outside has true time at one of its ends, or between.
	with := []impl.Ival{iv(k.o.Time, k.o.Time+9), iv(k.o.Time-9, k.o.Time), iv(k.o.Time-4, k.o.Time+5), iv(-far, far)}[step%4]
	before := k.narrow
	k.narrow, code = impl.Narrow(before, k.o.Drift, k.o.Count, with)
	k.look("narrowed", k.narrow.Bound, code)
	if !impl.Within(k.stepped.Bound, whole) || !impl.Within(k.narrow.Bound, k.stepped.Bound) || !impl.Within(k.narrow.Bound, with) {
		k.t.Fatalf("%s: %v at once, %v from mark to mark, %v narrowed by %v", k.name, whole, k.stepped, k.narrow, with)
	}
	if k.stepped.At != k.o.Count || k.narrow.At != k.o.Count {
		k.t.Fatalf("%s at the count %d: %v, %v", k.name, k.o.Count, k.stepped, k.narrow)
	}
	return true
}

func (k *tracked) look(how string, now impl.Ival, code int) {
	k.t.Helper()
	if code != impl.LocWell || !impl.Holds(now, k.o.Time) {
		k.t.Fatalf("%s by %v: %s to %v, %d, and true time is %d", k.name, k.o.Drift, how, now, code, k.o.Time)
	}
}

// P6: what is carried on, rebased, learned and narrowed has true time, for oscillators at the ends of their drift and between, by short strides and long ones.
func TestWhatIsKnownHasTrueTime(t *testing.T) {
	strides := []int{1, 2, 3, 5, 1, 8, 13, 0, 40, 7, 1000, 1, 999999, 6}
	for name, tick := range ticks() {
		for _, d := range rightDrifts() {
			for _, bound := range []impl.Ival{iv(50, 50), iv(50, 57), iv(44, 50), iv(-far, far/2)} {
				l, ok := impl.Learn(bound, 7)
				if !ok {
					t.Fatal("learn", bound)
				}
				k := tracked{t, name, osc(d, 50, 7), l, l, l}
				for step := range 60 {
					by := strides[step%len(strides)]
					if !k.goOn(by, tick(step, by), step) {
						t.Fatalf("%s by %v ended at %v", name, d, k.o)
					}
				}
			}
		}
	}
}

// P6, where counts and bounds end: what is carried on there is either over or has true time.
func TestTrueTimeWhereCountsEnd(t *testing.T) {
	for name, tick := range ticks() {
		for _, d := range rightDrifts() {
			l, _ := impl.Learn(iv(-far, 0), 0)
			k := tracked{t, name, osc(d, 0, 0), l, l, l}
			steps := 0
			for k.goOn(far/40, tick(steps, far/40), steps) {
				steps++
			}
			if steps < 10 {
				t.Fatalf("%s by %v: over behind %d steps, at %v", name, d, steps, k.o)
			}
		}
	}
}

// P6: by way of a count between, at once or in single counts, it is not wider; and it is told wherever it is told at once.
func TestByWayOfACountBetweenItIsNotWider(t *testing.T) {
	locals := []impl.Local{loc(0, 0, 0), loc(-5, 3, 4), loc(far-9, far-4, 2), loc(10, 12, far-9)}
	for _, d := range rightDrifts() {
		for _, l := range locals {
			for between := range 25 {
				for behind := range 25 {
					checkByWay(t, l, d, l.At+between, l.At+between+behind)
				}
			}
		}
		for _, between := range []int{1, far / 7, far / 3, far/2 - 1, far / 2} {
			for _, behind := range []int{1, far / 9, far / 3, far / 2} {
				checkByWay(t, loc(-far, -far+3, 0), d, between, between+behind)
				checkByWay(t, loc(-5, 3, 0), d, between, between+behind)
			}
		}
	}
}

func checkByWay(t *testing.T, l impl.Local, d impl.Drift, between, count int) {
	t.Helper()
	once, code := impl.CarryOn(l, d, count)
	if code != impl.LocWell {
		return
	}
	half, code := impl.Rebase(l, d, between)
	if code != impl.LocWell || !impl.LocalOk(half) {
		t.Fatalf("Rebase(%v, %v, %d): %v, %d", l, d, between, half, code)
	}
	twice, code := impl.CarryOn(half, d, count)
	if code != impl.LocWell || !impl.Within(twice, once) {
		t.Fatalf("%v by %v to %d is %v, and by way of %d %v, %d", l, d, count, once, between, twice, code)
	}
}

func TestCountByCountItIsNotWider(t *testing.T) {
	for _, d := range rightDrifts() {
		l := loc(-5, 3, 4)
		step := l
		for count := l.At; count <= l.At+60; count++ {
			once, code := impl.CarryOn(l, d, count)
			rebased, stepCode := impl.Rebase(step, d, count)
			step = rebased
			if code != impl.LocWell || stepCode != impl.LocWell || !impl.Within(step.Bound, once) {
				t.Fatalf("by %v to %d: %v, and count by count %v", d, count, once, step)
			}
		}
	}
}

// P6: widths never fall, and what has run over stays so.
func TestWidthsNeverFall(t *testing.T) {
	for _, d := range rightDrifts() {
		for _, l := range []impl.Local{loc(0, 0, 0), loc(-5, 3, 4), loc(far-2000, far-1995, 2), loc(10, 12, far-300)} {
			last := impl.WidthAt(l, d, l.At)
			if last != impl.Wide(l.Bound) {
				t.Fatalf("%v by %v is %d wide at its own count", l, d, last)
			}
			for n, wide := range widthsAhead(l, d) {
				if wide >= 0 && (last < 0 || wide < last) {
					t.Fatalf("%v by %v: %d wide behind %d at %d counts", l, d, wide, last, n)
				}
				last = wide
			}
		}
		last := 0
		for count := 0; count <= far && last >= 0; count += far / 1000 {
			wide := impl.WidthAt(loc(-far, -far, 0), d, count)
			if wide >= 0 && wide < last {
				t.Fatalf("by %v: %d wide behind %d at %d", d, wide, last, count)
			}
			last = wide
		}
	}
}

// KnownFor is what WidthAt tells, up to the count and from the next one on.
func TestKnownForEndsWhereWidthsPassMost(t *testing.T) {
	for _, d := range rightDrifts() {
		for _, l := range []impl.Local{loc(0, 0, 0), loc(-5, 3, 4), loc(far-900, far-895, 2), loc(10, 12, far-300)} {
			widths := widthsAhead(l, d)
			for _, most := range []int{-1, 0, 1, 7, 8, 9, 50, 700, far} {
				n, ok := impl.KnownFor(l, d, most)
				if ok != (most >= impl.Wide(l.Bound)) || !ok && n != 0 {
					t.Fatalf("KnownFor(%v, %v, %d): %d, %v", l, d, most, n, ok)
				}
				for later, wide := range widths {
					if ok && (wide >= 0 && wide <= most) != (later <= n) {
						t.Fatalf("KnownFor(%v, %v, %d) is %d, and %d counts on it is %d wide", l, d, most, n, later, wide)
					}
				}
			}
		}
	}
}

// P23: the arguments stay as they were, and a call that is made again answers the same.
func TestLocalsAreNotChanged(t *testing.T) {
	for _, l := range []impl.Local{{}, loc(10, 12, 100), loc(far, far, 100), loc(12, 10, 100), {At: 7}} {
		kept, d, with := l, dr(1, 4), iv(20, 40)
		for _, count := range []int{-1, 0, 99, 100, 110, far, far + 1, math.MinInt, math.MaxInt} {
			for range 2 {
				checkCarry(t, l, d, count, wantCarryOn(kept, dr(1, 4), count))
				checkRebase(t, l, d, count, wantRebase(kept, dr(1, 4), count))
				checkNarrow(t, l, d, count, with, wantNarrow(kept, dr(1, 4), count, iv(20, 40)))
				checkKnownFor(t, l, d, count, wantKnownFor(kept, widthsAhead(kept, d), count))
			}
			if l != kept || d != dr(1, 4) || with != iv(20, 40) {
				t.Fatal("an argument was changed", l, d, with)
			}
		}
	}
}
