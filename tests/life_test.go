package tests

import (
	"math"
	"slices"
	"testing"

	"loop.example/g00072/impl"
)

func checkLifeOk(t *testing.T, l impl.Life, want bool) {
	t.Helper()
	if got := impl.LifeOk(l); got != want {
		t.Fatalf("LifeOk(%v) is %v", l, got)
	}
}

func checkMay(t *testing.T, mode, kind int, want bool) {
	t.Helper()
	if got := impl.LifeMay(mode, kind); got != want {
		t.Fatalf("LifeMay(%d, %d) is %v", mode, kind, got)
	}
}

func checkLifeStep(t *testing.T, l impl.Life, e impl.Event, want stepAnswer) {
	t.Helper()
	next, code := impl.LifeStep(l, e)
	if got := (stepAnswer{next, code}); got != want {
		t.Fatalf("LifeStep(%v, %v): got %v, want %v", l, e, got, want)
	}
}

func checkLived(t *testing.T, l impl.Life, list []impl.Event, want livedAnswer) {
	t.Helper()
	then, codes := impl.LifeRun(l, list)
	if got := (livedAnswer{then, codes}); !sameLived(got, want) {
		t.Fatalf("LifeRun(%v, %v): got %v, want %v", l, list, got, want)
	}
}

func checkKnows(t *testing.T, l impl.Life, knows, sends bool) {
	t.Helper()
	if gotKnows, gotSends := impl.LifeKnows(l), impl.LifeSends(l); gotKnows != knows || gotSends != sends {
		t.Fatalf("%v knows: %v, sends: %v", l, gotKnows, gotSends)
	}
}

func checkName(t *testing.T, mode int, want string) {
	t.Helper()
	if got := impl.LifeName(mode); got != want {
		t.Fatalf("LifeName(%d) is %q", mode, got)
	}
}

func stepped(mode, epoch, since int) stepAnswer {
	return stepAnswer{lf(mode, epoch, since), impl.LifeDone}
}

func notNow(l impl.Life) stepAnswer { return stepAnswer{l, impl.LifeNo} }

func badStep() stepAnswer { return stepAnswer{code: impl.LifeBad} }

func TestLimitsOfLives(t *testing.T) {
	if modes := [4]int{impl.LifeDown, impl.LifeCold, impl.LifeSync, impl.LifeHold}; modes != [4]int{0, 1, 2, 3} {
		t.Error(modes)
	}
	if kinds := [6]int{impl.EvBoot, impl.EvCrash, impl.EvLearn, impl.EvWide, impl.EvNarrow, impl.EvLost}; kinds != [6]int{1, 2, 3, 4, 5, 6} {
		t.Error(kinds)
	}
	if limits := [4]int{impl.MaxEvents, impl.LifeDone, impl.LifeBad, impl.LifeNo}; limits != [4]int{200, 0, 1, 2} {
		t.Error(limits)
	}
}

func TestLifeOkAtItsLimits(t *testing.T) {
	// The zero value is one: down from the first count on.
	checkLifeOk(t, impl.Life{}, true)
	for mode, want := range map[int]bool{-1: false, 0: true, 1: true, 2: true, 3: true, 4: false} {
		checkLifeOk(t, lf(mode, 7, 50), want)
	}
	for _, mode := range allModes() {
		for epoch, want := range map[int]bool{-1: false, 0: true, 1: true, impl.MaxEpoch - 1: true, impl.MaxEpoch: true, impl.MaxEpoch + 1: false} {
			checkLifeOk(t, lf(mode, epoch, 50), want)
		}
		for since, want := range map[int]bool{-1: false, 0: true, 1: true, far - 1: true, far: true, far + 1: false} {
			checkLifeOk(t, lf(mode, 7, since), want)
		}
	}
	for _, l := range rightLives() {
		checkLifeOk(t, l, true)
	}
	for name, l := range wrongLives() {
		if impl.LifeOk(l) || wantLifeOk(l) {
			t.Errorf("%s: it is LifeOk", name)
		}
	}
}

// Each event in each mode, as the chapter names them.
func TestLifeMay(t *testing.T) {
	may := map[int][]int{
		impl.EvBoot:   {inDown},
		impl.EvCrash:  {inCold, inSync, inHold},
		impl.EvLearn:  {inCold, inSync, inHold},
		impl.EvWide:   {inSync},
		impl.EvNarrow: {inHold},
		impl.EvLost:   {inSync, inHold},
	}
	for kind, modes := range may {
		for _, mode := range allModes() {
			checkMay(t, mode, kind, slices.Contains(modes, mode))
		}
	}
}

func TestLifeMayOfWhatIsNone(t *testing.T) {
	for _, mode := range noModes() {
		for _, kind := range slices.Concat(allKinds(), noKinds()) {
			checkMay(t, mode, kind, false)
		}
	}
	for _, kind := range noKinds() {
		for _, mode := range allModes() {
			checkMay(t, mode, kind, false)
		}
	}
}

// Each event where it may come: the mode that it leads to, since when, and in which epoch.
func TestLifeStepWhereItMay(t *testing.T) {
	cases := []struct {
		mode, kind int
		want       stepAnswer
	}{
		{inDown, impl.EvBoot, stepped(inCold, 8, 60)},
		{inCold, impl.EvCrash, stepped(inDown, 7, 60)},
		{inCold, impl.EvLearn, stepped(inSync, 7, 60)},
		{inSync, impl.EvCrash, stepped(inDown, 7, 60)},
		{inSync, impl.EvLearn, stepped(inSync, 7, 50)},
		{inSync, impl.EvWide, stepped(inHold, 7, 60)},
		{inSync, impl.EvLost, stepped(inCold, 7, 60)},
		{inHold, impl.EvCrash, stepped(inDown, 7, 60)},
		{inHold, impl.EvLearn, stepped(inSync, 7, 60)},
		{inHold, impl.EvNarrow, stepped(inSync, 7, 60)},
		{inHold, impl.EvLost, stepped(inCold, 7, 60)},
	}
	for _, c := range cases {
		checkLifeStep(t, lf(c.mode, 7, 50), ev(c.kind, 60), c.want)
	}
}

// Each event where it may not come leaves the life as it was.
func TestLifeStepWhereItMayNot(t *testing.T) {
	not := map[int][]int{
		inDown: {impl.EvCrash, impl.EvLearn, impl.EvWide, impl.EvNarrow, impl.EvLost},
		inCold: {impl.EvBoot, impl.EvWide, impl.EvNarrow, impl.EvLost},
		inSync: {impl.EvBoot, impl.EvNarrow},
		inHold: {impl.EvBoot, impl.EvWide},
	}
	for mode, kinds := range not {
		for _, kind := range kinds {
			for _, at := range []int{50, 51, 60, far} {
				checkLifeStep(t, lf(mode, 7, 50), ev(kind, at), notNow(lf(mode, 7, 50)))
			}
		}
	}
}

// Of all events learning alone may leave the mode as it is; then it is that mode since it first was.
func TestSinceChangesWithTheModeAlone(t *testing.T) {
	l := lf(inSync, 7, 50)
	for _, at := range []int{50, 51, 60, 1000, far - 1, far} {
		checkLifeStep(t, l, ev(impl.EvLearn, at), stepAnswer{l, impl.LifeDone})
	}
	// What comes next may so lie ahead of the last learning, but not ahead of the mode.
	checkLived(t, l, events(ev(impl.EvLearn, 90), ev(impl.EvWide, 60)), livedAnswer{lf(inHold, 7, 60), []int{impl.LifeDone, impl.LifeDone}})
	checkLived(t, l, events(ev(impl.EvLearn, 90), ev(impl.EvWide, 50)), livedAnswer{lf(inHold, 7, 50), []int{impl.LifeDone, impl.LifeDone}})
	checkLived(t, l, events(ev(impl.EvLearn, 90), ev(impl.EvWide, 49)), livedAnswer{l, []int{impl.LifeDone, impl.LifeBad}})
	// Out of the other modes learning is a change.
	for _, mode := range []int{inCold, inHold} {
		checkLifeStep(t, lf(mode, 7, 50), ev(impl.EvLearn, 60), stepped(inSync, 7, 60))
	}
}

// From the count since which it has its mode on, up to the last count.
func TestLifeStepAtTheEndsOfItsCounts(t *testing.T) {
	for _, mode := range allModes() {
		for _, kind := range allKinds() {
			for _, since := range []int{0, 1, 50, far - 1, far} {
				l := lf(mode, 7, since)
				for _, at := range []int{since, min(since+1, far), far} {
					checkLifeStep(t, l, ev(kind, at), wantLifeStep(l, ev(kind, at)))
					if _, code := impl.LifeStep(l, ev(kind, at)); code == impl.LifeBad {
						t.Fatalf("%v, %d at %d is bad", l, kind, at)
					}
				}
				for _, at := range []int{since - 1, far + 1, -1, math.MinInt, math.MaxInt} {
					checkLifeStep(t, l, ev(kind, at), badStep())
				}
			}
		}
	}
}

// The last epoch is reached by a boot, and left by none; all else goes on in it.
func TestLifeStepInTheLastEpoch(t *testing.T) {
	checkLifeStep(t, lf(inDown, 0, 0), ev(impl.EvBoot, 5), stepped(inCold, 1, 5))
	checkLifeStep(t, lf(inDown, impl.MaxEpoch-2, 0), ev(impl.EvBoot, 5), stepped(inCold, impl.MaxEpoch-1, 5))
	checkLifeStep(t, lf(inDown, impl.MaxEpoch-1, 0), ev(impl.EvBoot, 5), stepped(inCold, impl.MaxEpoch, 5))
	checkLifeStep(t, lf(inDown, impl.MaxEpoch, 0), ev(impl.EvBoot, 5), notNow(lf(inDown, impl.MaxEpoch, 0)))
	checkLifeStep(t, lf(inDown, impl.MaxEpoch, far), ev(impl.EvBoot, far), notNow(lf(inDown, impl.MaxEpoch, far)))
	for _, mode := range allModes()[1:] {
		for _, kind := range allKinds() {
			want := notNow(lf(mode, impl.MaxEpoch, 50))
			if then := ledTo(mode, kind); then != nowhere {
				want = stepped(then, impl.MaxEpoch, 60)
			}
			if mode == inSync && kind == impl.EvLearn {
				want.l.Since = 50
			}
			checkLifeStep(t, lf(mode, impl.MaxEpoch, 50), ev(kind, 60), want)
		}
	}
}

// Wrong inputs: a life that is none, at any event; a kind or a count that is none, in any life.
func TestLifeStepRefuses(t *testing.T) {
	for _, l := range wrongLives() {
		for _, e := range manyEvents() {
			checkLifeStep(t, l, e, badStep())
		}
	}
	for _, l := range rightLives() {
		for _, kind := range noKinds() {
			for _, at := range append(edgeAts(), l.Since) {
				checkLifeStep(t, l, ev(kind, at), badStep())
			}
		}
	}
}

// What is bad is so also where the event may not come, and out of the last epoch.
func TestBadComesAheadOfNo(t *testing.T) {
	for _, mode := range allModes() {
		for _, kind := range allKinds() {
			for _, epoch := range []int{0, 7, impl.MaxEpoch} {
				checkLifeStep(t, lf(mode, epoch, 50), ev(kind, 49), badStep())
				checkLifeStep(t, lf(mode, epoch, 50), ev(kind, far+1), badStep())
			}
			checkLifeStep(t, lf(mode, impl.MaxEpoch+1, 50), ev(kind, 60), badStep())
		}
	}
}

func TestLifeStepAsTheDocumentSays(t *testing.T) {
	var codes [3]int
	for _, l := range manyLives() {
		for _, e := range manyEvents() {
			want := wantLifeStep(l, e)
			checkLifeStep(t, l, e, want)
			codes[want.code]++
		}
	}
	draw := &lottery{state: 171}
	for range 50000 {
		l := draw.life()
		e := draw.event(l.Since)
		want := wantLifeStep(l, e)
		checkLifeStep(t, l, e, want)
		codes[want.code]++
	}
	if slices.Min(codes[:]) < 3000 {
		t.Fatal("too few of a kind", codes)
	}
}

func TestLifeRunOrdinary(t *testing.T) {
	list := events(
		ev(impl.EvLearn, 1), ev(impl.EvBoot, 5), ev(impl.EvWide, 6), ev(impl.EvLearn, 7), ev(impl.EvLearn, 8), ev(impl.EvWide, 9), ev(impl.EvWide, 10),
		ev(impl.EvNarrow, 12), ev(impl.EvLost, 11), ev(impl.EvLost, 12), ev(impl.EvCrash, 20), ev(0, 21), ev(impl.EvCrash, 21), ev(impl.EvBoot, 20),
	)
	done, bad, no := impl.LifeDone, impl.LifeBad, impl.LifeNo
	codes := []int{no, done, no, done, done, done, no, done, bad, done, done, bad, no, done}
	checkLived(t, impl.Life{}, list, livedAnswer{lf(inCold, 2, 20), codes})
	then := []impl.Life{
		{}, lf(inCold, 1, 5), lf(inCold, 1, 5), lf(inSync, 1, 7), lf(inSync, 1, 7), lf(inHold, 1, 9), lf(inHold, 1, 9),
		lf(inSync, 1, 12), lf(inSync, 1, 12), lf(inCold, 1, 12), lf(inDown, 1, 20), lf(inDown, 1, 20), lf(inDown, 1, 20), lf(inCold, 2, 20),
	}
	for i := range list {
		checkLived(t, impl.Life{}, list[:i+1], livedAnswer{then[i], codes[:i+1]})
	}
}

// No event leaves the life as it was, also one that is none.
func TestLifeRunOfNoEvent(t *testing.T) {
	for _, l := range manyLives() {
		checkLived(t, l, nil, livedAnswer{l: l})
		checkLived(t, l, events(), livedAnswer{l: l})
	}
}

// A life that is none takes no event, and is told as it was.
func TestLifeRunOfALifeThatIsNone(t *testing.T) {
	list := events(ev(impl.EvBoot, 60), ev(impl.EvLearn, 60), ev(impl.EvCrash, 70), ev(0, 60), ev(impl.EvBoot, -1))
	for _, l := range wrongLives() {
		checkLived(t, l, list, livedAnswer{l, slices.Repeat([]int{impl.LifeBad}, len(list))})
	}
}

// What is bad leaves the life as it was, so that what comes behind it is as if it had not been.
func TestLifeRunBesideEventsThatAreBad(t *testing.T) {
	bads := events(ev(impl.EvLearn, -1), ev(impl.EvCrash, far+1), ev(impl.EvBoot, math.MinInt), ev(impl.EvLost, math.MaxInt))
	for _, kind := range noKinds() {
		bads = append(bads, ev(kind, 60))
	}
	done, bad := impl.LifeDone, impl.LifeBad
	for _, b := range bads {
		list := events(b, ev(impl.EvBoot, 60), b, ev(impl.EvLearn, 61), b, ev(impl.EvWide, 62), b)
		checkLived(t, lf(inDown, 7, 50), list, livedAnswer{lf(inHold, 8, 62), []int{bad, done, bad, done, bad, done, bad}})
		for _, l := range rightLives() {
			checkLived(t, l, events(b, b), livedAnswer{l, []int{bad, bad}})
		}
	}
}

// Boots, learning and crashes by turns, each at its own count.
func eventsWith(n int) []impl.Event {
	var list []impl.Event
	for i := range n {
		list = append(list, ev([]int{impl.EvBoot, impl.EvLearn, impl.EvCrash}[i%3], 100+i))
	}
	return list
}

func TestLifeRunOfManyEvents(t *testing.T) {
	for _, l := range manyLives() {
		for _, n := range []int{1, impl.MaxEvents - 1, impl.MaxEvents} {
			checkLived(t, l, eventsWith(n), wantLifeRun(l, eventsWith(n)))
			if _, codes := impl.LifeRun(l, eventsWith(n)); len(codes) != n {
				t.Fatalf("%d codes of %d events", len(codes), n)
			}
		}
		for _, n := range []int{impl.MaxEvents + 1, impl.MaxEvents + 2, 3 * impl.MaxEvents} {
			checkLived(t, l, eventsWith(n), livedAnswer{l: l})
			checkLived(t, l, make([]impl.Event, n), livedAnswer{l: l})
		}
	}
	checkLived(t, impl.Life{}, eventsWith(impl.MaxEvents), livedAnswer{lf(inSync, 67, 299), make([]int, impl.MaxEvents)})
}

func TestLifeRunAsTheDocumentSays(t *testing.T) {
	draw := &lottery{state: 172}
	var codes [3]int
	for range 2000 {
		l := draw.life()
		list := draw.events(draw.number(impl.MaxEvents+1), l.Since)
		want := wantLifeRun(l, list)
		checkLived(t, l, list, want)
		for _, code := range want.codes {
			codes[code]++
		}
	}
	if slices.Min(codes[:]) < 10000 {
		t.Fatal("too few of a kind", codes)
	}
}

func TestLifeKnowsAndSends(t *testing.T) {
	for _, l := range rightLives() {
		checkKnows(t, l, l.Mode == impl.LifeSync || l.Mode == impl.LifeHold, l.Mode == impl.LifeSync)
	}
	for _, l := range wrongLives() {
		checkKnows(t, l, false, false)
	}
	for _, l := range manyLives() {
		checkKnows(t, l, wantLifeKnows(l), wantLifeSends(l))
	}
}

func TestLifeName(t *testing.T) {
	checkName(t, impl.LifeDown, "down")
	checkName(t, impl.LifeCold, "cold")
	checkName(t, impl.LifeSync, "sync")
	checkName(t, impl.LifeHold, "hold")
	for _, mode := range noModes() {
		checkName(t, mode, "")
	}
	for mode := -300; mode <= 300; mode++ {
		checkName(t, mode, wantLifeName(mode))
	}
}
