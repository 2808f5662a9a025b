package tests

import (
	"cmp"
	"math"
	"slices"
	"strings"

	"loop.example/g00072/impl"
)

// What the document says of frames on the bus, written again: two frames by the times of both, load and quiet times by asking stretch for stretch whether a frame is on.

func fm(from, slot, round, start, end int) impl.Frame {
	return impl.Frame{From: from, Slot: slot, Round: round, Start: start, End: end}
}

// A frame of which nothing but its times matters.
func during(start, end int) impl.Frame { return fm(3, 1, 2, start, end) }

func bus(list ...impl.Frame) []impl.Frame { return list }

func clash(a, b int) impl.Clash { return impl.Clash{A: a, B: b} }

type busAnswer struct {
	list []impl.Frame
	code int
}

func wantFrameOk(f impl.Frame) bool {
	return wantNode(f.From) && inRange(bigOf(f.Slot), 0, 15) && bigTime(bigOf(f.Round)) &&
		bigTime(bigOf(f.Start)) && bigTime(bigOf(f.End)) && f.Start < f.End && len(f.Body) <= impl.MaxBody
}

func byStart(f, g impl.Frame) int { return cmp.Compare(f.Start, g.Start) }

func wantBusOk(list []impl.Frame) bool {
	wrong := func(f impl.Frame) bool { return !wantFrameOk(f) }
	return len(list) <= impl.MaxFrames && !slices.ContainsFunc(list, wrong) && slices.IsSortedFunc(list, byStart)
}

func wantBusPut(list []impl.Frame, f impl.Frame) busAnswer {
	more := append(slices.Clone(list), f)
	switch {
	case !wantBusOk(list) || !wantFrameOk(f) || !slices.IsSortedFunc(more, byStart):
		return busAnswer{code: impl.BusBad}
	case len(list) == impl.MaxFrames:
		return busAnswer{list, impl.BusFull}
	}
	return busAnswer{more, impl.BusDone}
}

// The first time that both may have is there just if both have any.
func wantTogether(f, g impl.Frame) bool { return max(f.Start, g.Start) < min(f.End, g.End) }

func wantClashes(list []impl.Frame) []impl.Clash {
	var all []impl.Clash
	if !wantBusOk(list) {
		return all
	}
	for a := range list {
		for b := range list {
			if a < b && wantTogether(list[a], list[b]) {
				all = append(all, clash(a, b))
			}
		}
	}
	return all
}

// Those of which it is so; nothing of a bus that is none.
func wantPlaces(list []impl.Frame, is func(i int, f impl.Frame) bool) []int {
	var places []int
	if !wantBusOk(list) {
		return places
	}
	for i, f := range list {
		if is(i, f) {
			places = append(places, i)
		}
	}
	return places
}

func wantStray(p impl.Plan, list []impl.Frame) []int {
	if !wantPlanOk(p) {
		return nil
	}
	return wantPlaces(list, func(_ int, f impl.Frame) bool {
		return wantInSlot(p, occurrencesNear(p, f.Start), f.From, f.Start, f.End) != turn(f.Slot, f.Round)
	})
}

func wantHeard(list []impl.Frame, t int) []int {
	return wantPlaces(list, func(i int, f impl.Frame) bool {
		for j, other := range list {
			if j != i && wantTogether(f, other) {
				return false
			}
		}
		return f.End <= t
	})
}

func wantOf(list []impl.Frame, node int) []int {
	return wantPlaces(list, func(_ int, f impl.Frame) bool { return f.From == node })
}

func isOn(list []impl.Frame, t int) bool {
	return slices.ContainsFunc(list, func(f impl.Frame) bool { return f.Start <= t && t < f.End })
}

type loadAnswer struct {
	load  int
	quiet []impl.Ival
}

func wantSpan(from, to int) bool {
	return bigTime(bigOf(from)) && bigTime(bigOf(to)) && from <= to
}

// Nothing begins or ends between two neighbouring ends of frames, so what is at the first time of such a stretch is at all of them.
func wantLoad(list []impl.Frame, from, to int) loadAnswer {
	if !wantBusOk(list) || !wantSpan(from, to) {
		return loadAnswer{load: -1}
	}
	ends := []int{from, to}
	for _, f := range list {
		ends = append(ends, min(max(f.Start, from), to), min(max(f.End, from), to))
	}
	slices.Sort(ends)
	ends = slices.Compact(ends)
	var want loadAnswer
	for i, at := range ends[:len(ends)-1] {
		next := ends[i+1]
		if isOn(list, at) {
			want.load += next - at
			continue
		}
		if last := len(want.quiet) - 1; last >= 0 && want.quiet[last].Hi == at {
			want.quiet[last].Hi = next
		} else {
			want.quiet = append(want.quiet, iv(at, next))
		}
	}
	return want
}

// Frames at the limits of each of their numbers.
func rightFrames() []impl.Frame {
	long := during(0, far)
	long.Body = strings.Repeat("z", impl.MaxBody)
	bytes := during(4, 9)
	bytes.Body = "\x00\xff\n"
	return []impl.Frame{
		fm(0, 0, 0, 0, 1), fm(impl.MaxNodes-1, 15, far, far-1, far), fm(1, 11, far-1, 0, far), fm(2, 12, 7, 5, 6), fm(0, 0, 0, 1, far),
		fm(3, 4, 5, far-2, far-1), during(7, 9), long, bytes,
	}
}

// A frame that is none, in each of its ways; its times are those of a bus from 10 on wherever they are not what is wrong.
func wrongFrames() map[string]impl.Frame {
	body := during(10, 12)
	body.Body = strings.Repeat("z", impl.MaxBody+1)
	much := during(10, 12)
	much.Body = strings.Repeat("z", 1000)
	all := map[string]impl.Frame{
		"the zero value": {}, "a Body one too long": body, "a Body much too long": much,
		"no time": during(10, 10), "End one below Start": during(10, 9), "End 0": during(10, 0), "no time at 0": during(0, 0), "no time at the end": during(far, far),
		"Start one below": during(-1, 12), "End one beyond": during(10, far+1), "both beyond": during(far+1, far+2), "both below": during(-5, -2),
		"Start the least int": during(math.MinInt, 12), "End the greatest int": during(10, math.MaxInt), "all times": during(math.MinInt, math.MaxInt),
		"Start the greatest int": during(math.MaxInt, 12), "End the least int": during(10, math.MinInt),
	}
	ways := map[string]int{" one below": -1, " the least int": math.MinInt, " the greatest int": math.MaxInt}
	for name, n := range ways {
		all["From"+name] = fm(n, 1, 2, 10, 12)
		all["Slot"+name] = fm(3, n, 2, 10, 12)
		all["Round"+name] = fm(3, 1, n, 10, 12)
	}
	all["From one beyond"] = fm(impl.MaxNodes, 1, 2, 10, 12)
	all["Slot one beyond"] = fm(3, 16, 2, 10, 12)
	all["Round one beyond"] = fm(3, 1, far+1, 10, 12)
	return all
}

// So many frames, of all nodes: some alone, some that touch, some that clash, some that begin together.
func busWith(n int) []impl.Frame {
	steps, longs := []int{0, 4, 2, 9, 0, 3}, []int{3, 4, 1, 12, 2}
	var list []impl.Frame
	at := 10
	for i := range n {
		at += steps[i%len(steps)]
		list = append(list, fm(i*5%impl.MaxNodes, i%16, i*7, at, at+longs[i%len(longs)]))
	}
	return list
}

// A bus that is none, in each of its ways.
func wrongBuses() map[string][]impl.Frame {
	all := map[string][]impl.Frame{
		"one frame more": busWith(impl.MaxFrames + 1), "many frames more": busWith(3 * impl.MaxFrames),
		"one frame more, all alike": slices.Repeat(bus(during(4, 6)), impl.MaxFrames+1),
		"a Start that falls by one": bus(during(5, 9), during(4, 5)), "a Start that falls to 0": bus(during(1, 2), during(0, 1)),
		"a Start that falls at the end":  append(busWith(impl.MaxFrames-1), during(9, 400)),
		"a Start that falls and rises":   bus(during(5, 9), during(4, 5), during(6, 7)),
		"a Start that falls from afar":   bus(during(far-1, far), during(far-2, far-1)),
		"a Start that falls for no time": bus(during(5, 9), during(4, 4)),
	}
	for name, f := range wrongFrames() {
		all[name+", alone"] = bus(f)
		for place, where := range map[int]string{0: " in front", 5: " between", 9: " at the end"} {
			list, wrong := busWith(10), f
			// With a Start that is in order, where it is not what is wrong, so that nothing else is.
			if f.Start == 10 {
				by := list[place].Start - 10
				wrong.Start, wrong.End = f.Start+by, f.End+by
			}
			list[place] = wrong
			all[name+where] = list
		}
	}
	return all
}

// So many frames, each with a Start and a length below the others.
func (l *lottery) frames(n, start, long int) []impl.Frame {
	var list []impl.Frame
	for range n {
		at := l.number(start)
		f := fm(l.number(impl.MaxNodes), l.number(16), l.number(50), at, at+1+l.number(long))
		f.Body = strings.Repeat("b", l.number(impl.MaxBody+1))
		list = append(list, f)
	}
	slices.SortStableFunc(list, byStart)
	return list
}

// A bus of any number of frames: crowded, or almost empty.
func (l *lottery) smallBus() []impl.Frame {
	return l.frames(l.number(impl.MaxFrames+1), 1+l.number(120), 1+l.number(12))
}

// A bus of few frames anywhere in time.
func (l *lottery) anyBus() []impl.Frame {
	list := l.frames(l.number(12), 1000000, 1+l.number(1000000))
	by := 1
	if l.number(2) == 0 {
		by = far / 2000000
	}
	for i := range list {
		list[i].Start *= by
		list[i].End *= by
	}
	return list
}
