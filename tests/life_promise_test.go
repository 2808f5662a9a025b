package tests

import (
	"slices"
	"sync"
	"testing"

	"loop.example/g00072/impl"
)

func hasEnded(l impl.Life, e impl.Event) bool {
	return e.Kind == impl.EvBoot && l.Epoch == impl.MaxEpoch
}

// P17 of one event: the epoch rises by one with a boot that is done, and by nothing else; it is done just if it may come; since changes only where the mode does. The code is told.
func checkOneEvent(t *testing.T, l impl.Life, e impl.Event) (impl.Life, int) {
	t.Helper()
	next, code := impl.LifeStep(l, e)
	may := impl.LifeMay(l.Mode, e.Kind)
	well := impl.LifeOk(l) && slices.Contains(allKinds(), e.Kind) && e.At >= l.Since && e.At <= far
	if (code == impl.LifeDone) != (well && may && !hasEnded(l, e)) || (code == impl.LifeBad) == well {
		t.Fatalf("%v, %v: %d, and that it may come is %v", l, e, code, may)
	}
	switch code {
	case impl.LifeBad:
		if next != (impl.Life{}) {
			t.Fatalf("%v, %v is bad: %v", l, e, next)
		}
		return next, code
	case impl.LifeNo:
		if next != l {
			t.Fatalf("%v, %v is not done: %v", l, e, next)
		}
		return next, code
	}
	rise := 0
	if e.Kind == impl.EvBoot {
		rise = 1
	}
	since := l.Since
	if next.Mode != l.Mode {
		since = e.At
	}
	if next.Epoch != l.Epoch+rise || next.Since != since || !impl.LifeOk(next) {
		t.Fatalf("%v, %v: %v", l, e, next)
	}
	return next, code
}

// P17 over drawn lives and events, one behind the other.
func TestEpochsRiseWithBootsAlone(t *testing.T) {
	draw := &lottery{state: 173}
	count := map[int]int{}
	var codes [3]int
	for range 5000 {
		l := draw.life()
		first, boots := l, 0
		for range 150 {
			e := draw.event(l.Since)
			next, code := checkOneEvent(t, l, e)
			codes[code]++
			if code == impl.LifeBad {
				continue
			}
			if code == impl.LifeDone {
				count[e.Kind]++
			}
			if code == impl.LifeDone && e.Kind == impl.EvBoot {
				boots++
			}
			if next.Epoch != first.Epoch+boots || next.Since < l.Since {
				t.Fatalf("%v came to %v by %d boots", first, next, boots)
			}
			l = next
		}
	}
	if slices.Min(codes[:]) < 5000 {
		t.Fatal("too few of a code", codes)
	}
	for _, kind := range allKinds() {
		if count[kind] < 2000 {
			t.Fatal("too few of a kind", count)
		}
	}
}

// P17 at every edge of a life and an event.
func TestEpochsRiseWithBootsAloneAtTheEdges(t *testing.T) {
	for _, l := range manyLives() {
		for _, e := range manyEvents() {
			checkOneEvent(t, l, e)
		}
	}
}

// P17 over every run of few events: the epoch behind it is how many boots were done in it.
func TestEpochsAreTheBootsThatWereDone(t *testing.T) {
	kinds := 0
	for _, list := range listsOf(allKinds(), 6) {
		var run []impl.Event
		for i, kind := range list {
			run = append(run, ev(kind, 10*i))
		}
		then, codes := impl.LifeRun(impl.Life{}, run)
		boots, l := 0, impl.Life{}
		for i, e := range run {
			next, code := impl.LifeStep(l, e)
			if code != codes[i] || (code == impl.LifeDone) != impl.LifeMay(l.Mode, e.Kind) {
				t.Fatalf("%v: %d at %d", run, code, i)
			}
			if code == impl.LifeDone && e.Kind == impl.EvBoot {
				boots++
			}
			l = next
			kinds++
		}
		if then != l || then.Epoch != boots {
			t.Fatalf("%v: %v, by %d boots", run, then, boots)
		}
	}
	if kinds < 200000 {
		t.Fatal("too few", kinds)
	}
}

// P17: boots and crashes up to the last epoch, and no further; who is down then stays so.
func TestEpochsEnd(t *testing.T) {
	var list []impl.Event
	for i := range impl.MaxEvents {
		list = append(list, ev([]int{impl.EvBoot, impl.EvCrash}[i%2], 100+i))
	}
	for left := range 12 {
		l := lf(inDown, impl.MaxEpoch-left, 5)
		then, codes := impl.LifeRun(l, list)
		since := 5
		if left > 0 {
			since = 100 + 2*left - 1
		}
		for i, code := range codes {
			if (code == impl.LifeDone) != (i < 2*left) || code == impl.LifeBad {
				t.Fatalf("%v: %v", l, codes)
			}
		}
		if then != lf(inDown, impl.MaxEpoch, since) {
			t.Fatalf("%v came to %v", l, then)
		}
	}
}

// Every epoch is come to from the one ahead of it.
func TestEveryEpochIsBootedInto(t *testing.T) {
	l := impl.Life{}
	for epoch := range impl.MaxEpoch {
		booted, code := impl.LifeStep(l, ev(impl.EvBoot, 2*epoch))
		if code != impl.LifeDone || booted != lf(inCold, epoch+1, 2*epoch) {
			t.Fatalf("%v: %v, %d", l, booted, code)
		}
		l, code = impl.LifeStep(booted, ev(impl.EvCrash, 2*epoch+1))
		if code != impl.LifeDone || l != lf(inDown, epoch+1, 2*epoch+1) {
			t.Fatalf("%v: %v, %d", booted, l, code)
		}
	}
	checkLifeStep(t, l, ev(impl.EvBoot, 2*impl.MaxEpoch), notNow(l))
}

// Who is down does nothing but boot, and everyone else may crash and learn, and not boot.
func TestWhoIsDownDoesNothingButBoot(t *testing.T) {
	for _, l := range rightLives() {
		var may []int
		for _, kind := range allKinds() {
			_, code := impl.LifeStep(l, ev(kind, far))
			if impl.LifeMay(l.Mode, kind) {
				may = append(may, kind)
			}
			if (code == impl.LifeDone) != (impl.LifeMay(l.Mode, kind) && !hasEnded(l, ev(kind, far))) {
				t.Fatalf("%v, %d: %d", l, kind, code)
			}
		}
		isDown := l.Mode == inDown
		if isDown != slices.Equal(may, []int{impl.EvBoot}) || isDown != slices.Contains(may, impl.EvBoot) || isDown == slices.Contains(may, impl.EvCrash) {
			t.Fatalf("%v: %v may come", l, may)
		}
	}
}

// Who knows is who may lose it; who sends is who may grow too wide for it; behind learning a node sends, behind growing wide it holds over, and behind a loss, a boot or a crash it knows nothing.
func TestWhoKnowsAndSendsBehindEachEvent(t *testing.T) {
	draw := &lottery{state: 174}
	count := map[int]int{}
	for range 20000 {
		l := draw.life()
		checkKnows(t, l, impl.LifeMay(l.Mode, impl.EvLost), impl.LifeMay(l.Mode, impl.EvWide))
		kind := allKinds()[draw.number(6)]
		next, code := impl.LifeStep(l, ev(kind, far))
		if code != impl.LifeDone {
			continue
		}
		count[kind]++
		sends := kind == impl.EvLearn || kind == impl.EvNarrow
		checkKnows(t, next, sends || kind == impl.EvWide, sends)
		names := map[int]string{impl.EvBoot: "cold", impl.EvCrash: "down", impl.EvLearn: "sync", impl.EvWide: "hold", impl.EvNarrow: "sync", impl.EvLost: "cold"}
		checkName(t, next.Mode, names[kind])
	}
	for _, kind := range allKinds() {
		if count[kind] < 300 {
			t.Fatal("too few of a kind", count)
		}
	}
}

// A run is its events one behind the other, and is cut anywhere the same.
func TestALifeIsItsEventsOneBehindTheOther(t *testing.T) {
	draw := &lottery{state: 175}
	for range 500 {
		first := draw.life()
		list := draw.events(1+draw.number(60), first.Since)
		then, codes := impl.LifeRun(first, list)
		l := first
		for i, e := range list {
			next, code := impl.LifeStep(l, e)
			if code != codes[i] {
				t.Fatalf("%v, %v: %v, and %d at %d", first, list, codes, code, i)
			}
			if code != impl.LifeBad {
				l = next
			}
			// The rest of the run from here on.
			checkLived(t, l, list[i+1:], livedAnswer{then, codes[i+1:]})
		}
		if l != then {
			t.Fatalf("%v, %v: %v, and one by one %v", first, list, then, l)
		}
	}
}

// Events that are not done change nothing: without them the life is the same, and all are done.
func TestEventsThatAreNotDoneChangeNothing(t *testing.T) {
	draw := &lottery{state: 176}
	left := 0
	for range 2000 {
		l := draw.life()
		list := draw.events(draw.number(impl.MaxEvents+1), l.Since)
		then, codes := impl.LifeRun(l, list)
		var done []impl.Event
		for i, code := range codes {
			if code == impl.LifeDone {
				done = append(done, list[i])
			}
		}
		checkLived(t, l, done, livedAnswer{then, make([]int, len(done))})
		left += len(list) - len(done)
	}
	if left < 10000 {
		t.Fatal("too few", left)
	}
}

// P23: the events are not written into, nor the spare room behind them; codes have memory of their own.
func TestLivesShareNothing(t *testing.T) {
	draw := &lottery{state: 177}
	for _, l := range []impl.Life{{}, lf(inSync, 7, 50), lf(inDown, impl.MaxEpoch, 50), lf(4, 0, 0)} {
		for _, n := range []int{0, 1, 2, 3, 60, impl.MaxEvents - 1, impl.MaxEvents, impl.MaxEvents + 1} {
			room := append(draw.events(n, 50), ev(-7, -7), ev(impl.EvBoot, 60), ev(impl.EvLearn, 61))
			kept, list := slices.Clone(room), room[:n]
			then, one := impl.LifeRun(l, list)
			_, other := impl.LifeRun(l, list)
			told := slices.Clone(one)
			same := slices.Equal(room, kept) && slices.Equal(other, told)
			overwrite(one, -6)
			same = same && slices.Equal(room, kept) && slices.Equal(other, told)
			overwrite(room, ev(-5, -5))
			if !same || !slices.Equal(other, told) {
				t.Fatalf("%v: the codes are not %v, or the events are not %v any more", l, told, kept)
			}
			if want := wantLifeRun(l, kept[:n]); !sameLived(livedAnswer{then, told}, want) {
				t.Fatalf("%v, %v: %v, %v", l, kept[:n], then, told)
			}
		}
	}
}

// P23: one list of events may be lived by several at once, and each comes to what it comes to alone.
func TestOneListLivedBySeveralAtOnce(t *testing.T) {
	draw := &lottery{state: 178}
	list := draw.events(impl.MaxEvents, 50)
	kept := slices.Clone(list)
	var all sync.WaitGroup
	for _, l := range rightLives() {
		want := wantLifeRun(l, list)
		all.Go(func() {
			for range 20 {
				then, codes := impl.LifeRun(l, list)
				if !sameLived(livedAnswer{then, codes}, want) {
					t.Error(l, then, codes)
				}
			}
		})
	}
	all.Wait()
	if !slices.Equal(list, kept) {
		t.Error("the events were written into", list)
	}
}

// P23: a call that is made again answers the same, whatever was asked between.
func TestLivesAreTheSameEachTime(t *testing.T) {
	l, list := lf(inDown, 7, 50), events(ev(impl.EvBoot, 60), ev(impl.EvLearn, 61), ev(impl.EvLearn, 62), ev(9, 63), ev(impl.EvBoot, 64))
	codes := []int{impl.LifeDone, impl.LifeDone, impl.LifeDone, impl.LifeBad, impl.LifeNo}
	for range 50 {
		checkLifeOk(t, l, true)
		checkMay(t, inDown, impl.EvBoot, true)
		checkMay(t, inCold, impl.EvBoot, false)
		checkLifeStep(t, l, ev(impl.EvBoot, 60), stepped(inCold, 8, 60))
		checkLifeStep(t, l, ev(impl.EvCrash, 60), notNow(l))
		checkLifeStep(t, l, ev(impl.EvBoot, 49), badStep())
		checkLived(t, l, list, livedAnswer{lf(inSync, 8, 61), codes})
		checkKnows(t, l, false, false)
		checkName(t, inHold, "hold")
	}
	if l != lf(inDown, 7, 50) {
		t.Fatal("an argument was written into", l)
	}
}
