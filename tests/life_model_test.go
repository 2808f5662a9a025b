package tests

import (
	"math"
	"slices"
	"strconv"

	"loop.example/g00072/impl"
)

// What the document says of a node's life, written again as rows of what each event leads to in each mode.

const (
	inDown = impl.LifeDown
	inCold = impl.LifeCold
	inSync = impl.LifeSync
	inHold = impl.LifeHold
	// It may not come there.
	nowhere = -1
)

func lf(mode, epoch, since int) impl.Life {
	return impl.Life{Mode: mode, Epoch: epoch, Since: since}
}

func ev(kind, at int) impl.Event { return impl.Event{Kind: kind, At: at} }

func events(list ...impl.Event) []impl.Event { return list }

type stepAnswer struct {
	l    impl.Life
	code int
}

type livedAnswer struct {
	l     impl.Life
	codes []int
}

func sameLived(a, b livedAnswer) bool { return a.l == b.l && slices.Equal(a.codes, b.codes) }

func allModes() []int { return []int{inDown, inCold, inSync, inHold} }

func allKinds() []int {
	return []int{impl.EvBoot, impl.EvCrash, impl.EvLearn, impl.EvWide, impl.EvNarrow, impl.EvLost}
}

// One beyond each end, numbers that are the other's, and the outermost ints.
func noModes() []int { return []int{math.MinInt, -4, -1, 4, 5, 6, 7, 64, 256, 1 << 32, math.MaxInt} }

func noKinds() []int { return []int{math.MinInt, -6, -1, 0, 7, 8, 64, 257, 1<<32 + 1, math.MaxInt} }

// By modes, and then by kinds in their order: boot, crash, learn, wide, narrow, lost.
func wantLedTo() [4][6]int {
	return [4][6]int{
		{inCold, nowhere, nowhere, nowhere, nowhere, nowhere},
		{nowhere, inDown, inSync, nowhere, nowhere, nowhere},
		{nowhere, inDown, inSync, inHold, nowhere, inCold},
		{nowhere, inDown, inSync, nowhere, inSync, inCold},
	}
}

func ledTo(mode, kind int) int {
	if !slices.Contains(allModes(), mode) || !slices.Contains(allKinds(), kind) {
		return nowhere
	}
	return wantLedTo()[mode][kind-1]
}

func wantLifeOk(l impl.Life) bool {
	return slices.Contains(allModes(), l.Mode) && inRange(bigOf(l.Epoch), 0, impl.MaxEpoch) && bigTime(bigOf(l.Since))
}

func wantLifeMay(mode, kind int) bool { return ledTo(mode, kind) != nowhere }

func wantLifeStep(l impl.Life, e impl.Event) stepAnswer {
	if !wantLifeOk(l) || !slices.Contains(allKinds(), e.Kind) || !inRange(bigOf(e.At), l.Since, far) {
		return stepAnswer{code: impl.LifeBad}
	}
	next := l
	if e.Kind == impl.EvBoot {
		next.Epoch = l.Epoch + 1
	}
	next.Mode = ledTo(l.Mode, e.Kind)
	if next.Mode == nowhere || next.Epoch > impl.MaxEpoch {
		return stepAnswer{l, impl.LifeNo}
	}
	if next.Mode != l.Mode {
		next.Since = e.At
	}
	return stepAnswer{next, impl.LifeDone}
}

func wantLifeRun(l impl.Life, list []impl.Event) livedAnswer {
	if len(list) > impl.MaxEvents {
		return livedAnswer{l: l}
	}
	answer := livedAnswer{l: l}
	for _, e := range list {
		one := wantLifeStep(answer.l, e)
		answer.codes = append(answer.codes, one.code)
		if one.code != impl.LifeBad {
			answer.l = one.l
		}
	}
	return answer
}

func wantLifeKnows(l impl.Life) bool {
	return wantLifeOk(l) && l.Mode != inDown && l.Mode != inCold
}

func wantLifeSends(l impl.Life) bool { return wantLifeKnows(l) && l.Mode != inHold }

func wantLifeName(mode int) string {
	return map[int]string{inDown: "down", inCold: "cold", inSync: "sync", inHold: "hold"}[mode]
}

// Each mode with the ends of epochs and counts.
func rightLives() []impl.Life {
	var list []impl.Life
	for _, mode := range allModes() {
		for _, epoch := range []int{0, 1, 7, impl.MaxEpoch - 1, impl.MaxEpoch} {
			for _, since := range []int{0, 1, 50, far - 1, far} {
				list = append(list, lf(mode, epoch, since))
			}
		}
	}
	return list
}

// One field that is wrong, in every mode where it is not the mode itself.
func wrongLives() map[string]impl.Life {
	all := map[string]impl.Life{}
	for _, mode := range noModes() {
		all["the mode "+strconv.Itoa(mode)] = lf(mode, 7, 50)
	}
	for _, mode := range allModes() {
		in := wantLifeName(mode)
		for _, epoch := range []int{math.MinInt, -1, impl.MaxEpoch + 1, math.MaxInt} {
			all[in+" in the epoch "+strconv.Itoa(epoch)] = lf(mode, epoch, 50)
		}
		for _, since := range []int{math.MinInt, -far, -1, far + 1, math.MaxInt} {
			all[in+" since "+strconv.Itoa(since)] = lf(mode, 7, since)
		}
	}
	return all
}

// Every right life, every wrong one, and such that are wrong in more than one way.
func manyLives() []impl.Life {
	list := append(rightLives(), lf(-1, -1, -1), lf(4, impl.MaxEpoch+1, far+1), lf(math.MinInt, math.MinInt, math.MinInt), lf(math.MaxInt, math.MaxInt, math.MaxInt))
	for _, l := range wrongLives() {
		list = append(list, l)
	}
	return list
}

// Counts around those that a life may have begun at, and around both ends.
func edgeAts() []int {
	return []int{math.MinInt, -far, -1, 0, 1, 2, 49, 50, 51, far - 2, far - 1, far, far + 1, math.MaxInt}
}

func manyEvents() []impl.Event {
	var list []impl.Event
	for _, kind := range slices.Concat(allKinds(), noKinds()) {
		for _, at := range edgeAts() {
			list = append(list, ev(kind, at))
		}
	}
	return list
}

// A number up to most, of any size, as most draws of a great range have nearly the size of its end.
func (l *lottery) upTo(most int) int {
	return (l.number(1<<24) * l.number(1<<24) >> l.number(48)) % (most + 1)
}

func (l *lottery) life() impl.Life {
	epoch := []int{0, l.upTo(impl.MaxEpoch), impl.MaxEpoch - l.number(4)}[l.number(3)]
	since := []int{0, l.upTo(far), far - l.number(4)}[l.number(3)]
	return lf(l.number(4), epoch, since)
}

// Mostly one that may be; now and then its count lies a little ahead of what it should, or its kind is none.
func (l *lottery) event(from int) impl.Event {
	kind := allKinds()[l.number(6)]
	if l.number(12) == 0 {
		kind = noKinds()[l.number(len(noKinds()))]
	}
	at := min(far, from+l.number(6))
	if l.number(12) == 0 {
		at = []int{from - 1 - l.number(5), -1, far + 1, math.MinInt, math.MaxInt}[l.number(5)]
	}
	return ev(kind, at)
}

// So many events whose counts go on, stand, and now and then go back.
func (l *lottery) events(n, from int) []impl.Event {
	var list []impl.Event
	for range n {
		e := l.event(from)
		list = append(list, e)
		if e.At > from && e.At <= far {
			from = e.At
		}
	}
	return list
}
