package tests

import (
	"math"
	"slices"

	"loop.example/g00072/impl"
)

// What the document says of the clock that is read, written again; the names are short, for lists of looks and readings are long.

func had(last int) impl.App { return impl.App{Has: true, Last: last} }

func look(lo, hi int) impl.Look { return impl.Look{Known: true, Now: iv(lo, hi)} }

func blind() impl.Look { return impl.Look{} }

func looks(list ...impl.Look) []impl.Look { return list }

func newly(value int) impl.Reading { return impl.Reading{Value: value, Code: impl.ReadWell} }

func stays(value int) impl.Reading {
	return impl.Reading{Value: value, Holds: true, Code: impl.ReadWell}
}

func unsure() impl.Reading { return impl.Reading{Code: impl.ReadUnsure} }

func unread() impl.Reading { return impl.Reading{Code: impl.ReadBad} }

func readings(list ...impl.Reading) []impl.Reading { return list }

type appAnswer struct {
	a     impl.App
	value int
	holds bool
	code  int
}

type runAnswer struct {
	reads []impl.Reading
	a     impl.App
}

func wantAppOk(a impl.App) bool {
	if !a.Has {
		return a.Last == 0
	}
	return inRange(bigOf(a.Last), -impl.MaxTime, impl.MaxTime)
}

func wantAppRead(a impl.App, known bool, now impl.Ival) appAnswer {
	if !wantAppOk(a) || (known && !bigIvalOf(now).ok()) {
		return appAnswer{code: impl.ReadBad}
	}
	if !known && !a.Has {
		return appAnswer{a: a, code: impl.ReadUnsure}
	}
	if !known || (a.Has && bigOf(a.Last).Cmp(bigOf(now.Hi)) > 0) {
		return appAnswer{had(a.Last), a.Last, true, impl.ReadWell}
	}
	value := wantMiddle(now).n
	if a.Has && a.Last > value {
		value = a.Last
	}
	return appAnswer{had(value), value, false, impl.ReadWell}
}

func wantAppLag(a impl.App, now impl.Ival) int {
	if !wantAppOk(a) || !bigIvalOf(now).ok() || !a.Has {
		return 0
	}
	return int(greaterOf(bigOf(0), less(bigOf(a.Last), bigOf(now.Hi))).Int64())
}

func wantAppRun(a impl.App, list []impl.Look) runAnswer {
	if len(list) > impl.MaxLooks {
		return runAnswer{nil, a}
	}
	var reads []impl.Reading
	for _, l := range list {
		one := wantAppRead(a, l.Known, l.Now)
		reads = append(reads, impl.Reading{Value: one.value, Holds: one.holds, Code: one.code})
		if one.code != impl.ReadBad {
			a = one.a
		}
	}
	return runAnswer{reads, a}
}

// The last reading of ReadWell in the list, and whether there is one.
func lastWell(ahead []impl.Reading) (value int, there bool) {
	for _, r := range ahead {
		if r.Code == impl.ReadWell {
			value, there = r.Value, true
		}
	}
	return value, there
}

func wantReadMay(l impl.Look, ahead []impl.Reading, r impl.Reading) bool {
	last, there := lastWell(ahead)
	switch {
	case r.Code == impl.ReadUnsure:
		return !l.Known && !there && r.Value == 0 && !r.Holds
	case r.Code != impl.ReadWell:
		return false
	case !l.Known:
		return r.Holds && there && r.Value == last
	case r.Holds:
		return there && r.Value == last && r.Value > l.Now.Hi
	default:
		return wantHolds(l.Now, r.Value) && (!there || r.Value >= last)
	}
}

func wantReadsOk(list []impl.Look, reads []impl.Reading) bool {
	if len(list) != len(reads) || len(list) > impl.MaxLooks {
		return false
	}
	for i, l := range list {
		if l.Known && !bigIvalOf(l.Now).ok() {
			return false
		}
		if !wantReadMay(l, reads[:i], reads[i]) {
			return false
		}
	}
	return true
}

// Each limit and one beyond it as the last reading, of clocks that have one and of such that have none.
func edgeApps() []impl.App {
	var list []impl.App
	for _, last := range edgeNumbers() {
		list = append(list, had(last), impl.App{Last: last})
	}
	return list
}

func rightApps() []impl.App {
	return []impl.App{{}, had(0), had(5), had(-5), had(far), had(-far), had(far - 1), had(-far + 1)}
}

// One that is wrong: a last reading one beyond each limit or at the outermost ints, or one that is not 0 of a clock that has none.
func wrongApps() []impl.App {
	return []impl.App{
		had(far + 1), had(-far - 1), had(math.MaxInt), had(math.MinInt),
		{Last: 1}, {Last: -1}, {Last: far}, {Last: -far}, {Last: far + 1}, {Last: -far - 1}, {Last: math.MaxInt}, {Last: math.MinInt},
	}
}

// Around 0, where down is not towards 0, so that middles of odd widths fall on both sides.
func smallLooks() []impl.Look {
	list := looks(blind())
	for _, a := range ivalsOf([]int{-2, -1, 0, 1}) {
		list = append(list, impl.Look{Known: true, Now: a})
	}
	return list
}

func wrongLooks() []impl.Look {
	var list []impl.Look
	for _, a := range wrongSources() {
		list = append(list, impl.Look{Known: true, Now: a})
	}
	return list
}

// As many looks as asked for: intervals that go on, stand and fall back, and some at which nothing is known.
func (l *lottery) looks(n, most int) []impl.Look {
	var list []impl.Look
	for range n {
		one := impl.Look{Known: true, Now: l.sources(1, most)[0]}
		one.Now.Lo -= most / 2
		one.Now.Hi -= most / 2
		if l.number(5) == 0 {
			one = blind()
		}
		list = append(list, one)
	}
	return list
}

func sameRun(a, b runAnswer) bool { return a.a == b.a && slices.Equal(a.reads, b.reads) }
