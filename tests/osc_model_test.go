package tests

import (
	"math/big"

	"loop.example/g00072/impl"
)

// What the document says of oscillators and their marks, written again over numbers without bound.

func osc(d impl.Drift, time, count int) impl.Osc {
	return impl.Osc{Drift: d, Time: time, Count: count}
}

func mk(time, count int) impl.Mark { return impl.Mark{Time: time, Count: count} }

func wantOscOk(o impl.Osc) bool {
	return wantDriftOk(o.Drift) && bigTime(bigOf(o.Time)) && bigTime(bigOf(o.Count))
}

type oscAnswer struct {
	o  impl.Osc
	ok bool
}

func wantOscStep(o impl.Osc, s impl.Stride) oscAnswer {
	if !wantOscOk(o) {
		return oscAnswer{}
	}
	counted := wantClamp(o.Drift, s.By, s.Want)
	if !bigTime(bigOf(s.By)) || !counted.ok {
		return oscAnswer{o, false}
	}
	time, count := plus(bigOf(o.Time), bigOf(s.By)), plus(bigOf(o.Count), bigOf(counted.n))
	if !bigTime(time) || !bigTime(count) {
		return oscAnswer{o, false}
	}
	return oscAnswer{osc(o.Drift, int(time.Int64()), int(count.Int64())), true}
}

func wantMarksAmong(d impl.Drift, list []impl.Mark, twoOf func(i, j int) bool) bool {
	if !wantDriftOk(d) || len(list) < 1 || len(list) > impl.MaxMarks {
		return false
	}
	for _, m := range list {
		if !bigTime(bigOf(m.Time)) || !bigTime(bigOf(m.Count)) {
			return false
		}
	}
	for j := range list {
		for i := range j {
			if twoOf(i, j) && !wantMayCount(d, list[j].Time-list[i].Time, list[j].Count-list[i].Count) {
				return false
			}
		}
	}
	return true
}

func wantMarksOk(d impl.Drift, list []impl.Mark) bool {
	return wantMarksAmong(d, list, func(i, j int) bool { return j == i+1 })
}

func wantMarksAll(d impl.Drift, list []impl.Mark) bool {
	return wantMarksAmong(d, list, func(i, j int) bool { return true })
}

func wantElapsedAt(d impl.Drift, list []impl.Mark, i, j int) pairAnswer {
	if !wantMarksOk(d, list) || i < 0 || i > j || j >= len(list) {
		return pairAnswer{}
	}
	return wantBetween(d, list[j].Count-list[i].Count)
}

// A mark as it is looked for, and what it says there: its count by its time, or its time by its count.
type side struct{ at, says int }

type outermost func(d impl.Drift, n int, sign int) numAnswer

func wantCountWhen(d impl.Drift, list []impl.Mark, time int) pairAnswer {
	return wantWhen(d, list, time, func(m impl.Mark) side { return side{m.Time, m.Count} }, wantCount)
}

func wantTimeWhen(d impl.Drift, list []impl.Mark, count int) pairAnswer {
	return wantWhen(d, list, count, func(m impl.Mark) side { return side{m.Count, m.Time} }, wantTime)
}

func wantWhen(d impl.Drift, list []impl.Mark, key int, sideOf func(impl.Mark) side, most outermost) pairAnswer {
	if !wantMarksOk(d, list) || key < sideOf(list[0]).at || key > sideOf(list[len(list)-1]).at {
		return pairAnswer{}
	}
	last := 0
	for i, m := range list {
		if sideOf(m).at <= key {
			last = i
		}
	}
	here := sideOf(list[last])
	lo, hi, ok := bounded(d, key-here.at, most)
	lo, hi = plus(bigOf(here.says), lo), plus(bigOf(here.says), hi)
	if last+1 < len(list) {
		next := sideOf(list[last+1])
		least, greatest, also := bounded(d, next.at-key, most)
		lo, hi = greaterOf(lo, less(bigOf(next.says), greatest)), lesserOf(hi, less(bigOf(next.says), least))
		ok = ok && also
	}
	return answerOf(bigIval{lo, hi}, ok)
}

func bounded(d impl.Drift, n int, most outermost) (*big.Int, *big.Int, bool) {
	least, greatest := most(d, n, -1), most(d, n, 1)
	return bigOf(least.n), bigOf(greatest.n), least.ok && greatest.ok
}

// Every row of marks of this length whose times and counts are below most, right and wrong ones.
func marksOf(length, most int) [][]impl.Mark {
	rows := [][]impl.Mark{nil}
	for range length {
		var longer [][]impl.Mark
		for _, row := range rows {
			for time := range most {
				for count := range most {
					longer = append(longer, append(row[:len(row):len(row)], mk(time, count)))
				}
			}
		}
		rows = longer
	}
	return rows
}

// Every row of marks that an oscillator may have left: from 0 on, this many strides, of the times and counts below most.
func walksOf(d impl.Drift, strides, most int) [][]impl.Mark {
	rows := [][]impl.Mark{{mk(0, 0)}}
	for range strides {
		var longer [][]impl.Mark
		for _, row := range rows {
			last := row[len(row)-1]
			for _, s := range stretchesOf(d, most) {
				longer = append(longer, append(row[:len(row):len(row)], mk(last.Time+s.time, last.Count+s.count)))
			}
		}
		rows = longer
	}
	return rows
}
