package tests

import (
	"math"
	"slices"
	"testing"

	"loop.example/g00072/impl"
)

// P12: readings never fall; each lies in its look's interval, or above it and is the one ahead again; where nothing is known it is the one ahead again. Told is how many intervals lay below the reading ahead, and how many readings held.
func checkNeverFall(t *testing.T, list []impl.Look, reads []impl.Reading) (below, held int) {
	t.Helper()
	if len(reads) != len(list) {
		t.Fatalf("%d readings of %d looks", len(reads), len(list))
	}
	var last impl.App
	for i, r := range reads {
		now := list[i].Now
		switch {
		case r.Code == impl.ReadUnsure && !list[i].Known && !last.Has && r == unsure():
			continue
		case r.Code != impl.ReadWell || !list[i].Known && !last.Has:
			t.Fatalf("look %d of %v is %v, behind %v", i, list, r, last)
		case last.Has && r.Value < last.Last:
			t.Fatalf("look %d of %v fell to %v, behind %v", i, list, r, last)
		case list[i].Known && now.Lo <= r.Value && r.Value <= now.Hi && !r.Holds:
		case (!list[i].Known || r.Value > now.Hi) && r.Holds && last == had(r.Value):
			held++
		default:
			t.Fatalf("look %d of %v is %v, behind %v", i, list, r, last)
		}
		if last.Has && list[i].Known && now.Hi < last.Last {
			below++
		}
		last = had(r.Value)
	}
	return below, held
}

func TestReadingsNeverFall(t *testing.T) {
	draw := &lottery{state: 12}
	below, held := 0, 0
	for range 2000 {
		list := draw.looks(1+draw.number(impl.MaxLooks), 2+draw.number(400))
		reads, then := impl.AppRun(impl.App{}, list)
		b, h := checkNeverFall(t, list, reads)
		below, held = below+b, held+h
		if last, there := lastWell(reads); then.Has != there || then.Last != last {
			t.Fatalf("%v: the clock then is %v, and the readings are %v", list, then, reads)
		}
	}
	if below < 1000 || held < below+1000 {
		t.Fatal("too few of a kind", below, held)
	}
}

// P12, of every few looks around 0, and of such that reach the limits.
func TestReadingsNeverFallByFewLooks(t *testing.T) {
	around := slices.DeleteFunc(smallLooks(), func(l impl.Look) bool { return l.Known && !impl.IvalOk(l.Now) })
	for _, list := range listsOf(around, 4) {
		reads, _ := impl.AppRun(impl.App{}, list)
		checkNeverFall(t, list, reads)
		checkReadsOk(t, list, reads, true)
	}
	var outer []impl.Look
	for _, a := range rightSources() {
		outer = append(outer, impl.Look{Known: true, Now: a})
	}
	for _, list := range listsOf(append(outer, blind()), 3) {
		reads, _ := impl.AppRun(impl.App{}, list)
		checkNeverFall(t, list, reads)
		checkReadsOk(t, list, reads, true)
	}
}

// P12 of the clock of a node: its interval widens by what its oscillator may be wrong by, and is narrowed by what it is told.
func TestReadingsOfANodeThatKeepsTime(t *testing.T) {
	draw := &lottery{state: 40}
	strides := []int{1, 2, 3, 5, 1, 8, 13, 0, 40, 7}
	for name, tick := range ticks() {
		for _, d := range rightDrifts() {
			o := osc(d, 50, 7)
			own := loc(40, 90, 7)
			var list []impl.Look
			for step := range impl.MaxLooks {
				by := strides[step%len(strides)]
				o, _ = impl.OscStep(o, impl.Stride{By: by, Want: tick(step, by)})
				if step%4 == 0 {
					own, _ = impl.Narrow(own, d, o.Count, draw.around(o.Time, 30))
				}
				now, code := impl.CarryOn(own, d, o.Count)
				if code != impl.LocWell {
					t.Fatalf("%s by %v: %v at %v is %d", name, d, own, o, code)
				}
				list = append(list, impl.Look{Known: step%9 != 0, Now: now})
			}
			reads, _ := impl.AppRun(impl.App{}, list)
			if _, held := checkNeverFall(t, list, reads); held < 10 {
				t.Fatalf("%s by %v: only %d held", name, d, held)
			}
			checkReadsOk(t, list, reads, true)
		}
	}
}

// A run is AppRead for each look, one behind the other; and a run of all looks is one of some and then one of the rest.
func TestARunIsItsLooksOneBehindTheOther(t *testing.T) {
	draw := &lottery{state: 8}
	for range 500 {
		list := draw.looks(draw.number(impl.MaxLooks+1), 2+draw.number(90))
		for i := range list {
			if draw.number(6) == 0 {
				list[i] = wrongLooks()[draw.number(len(wrongLooks()))]
			}
		}
		a := slices.Concat(rightApps(), []impl.App{{}, {}, had(9), had(40), {Last: 3}})[draw.number(13)]
		var one runAnswer
		one.a = a
		for _, l := range list {
			next, value, holds, code := impl.AppRead(one.a, l.Known, l.Now)
			one.reads = append(one.reads, impl.Reading{Value: value, Holds: holds, Code: code})
			if code != impl.ReadBad {
				one.a = next
			}
		}
		checkAppRun(t, a, list, one)
		cut := draw.number(len(list) + 1)
		ahead, between := impl.AppRun(a, list[:cut])
		behind, then := impl.AppRun(between, list[cut:])
		checkAppRun(t, a, list, runAnswer{slices.Concat(ahead, behind), then})
	}
}

// Looks that are bad among others change nothing of what the others are told.
func TestBadLooksAmongOthersChangeNothing(t *testing.T) {
	draw := &lottery{state: 71}
	bad := 0
	for range 500 {
		list := draw.looks(draw.number(impl.MaxLooks/2), 2+draw.number(90))
		reads, then := impl.AppRun(impl.App{}, list)
		for range draw.number(20) {
			place := draw.number(len(list) + 1)
			list = slices.Insert(list, place, wrongLooks()[draw.number(len(wrongLooks()))])
			reads = slices.Insert(reads, place, unread())
			bad++
		}
		checkAppRun(t, impl.App{}, list, runAnswer{reads, then})
		checkReadsOk(t, list, reads, !slices.Contains(reads, unread()))
	}
	if bad < 1000 {
		t.Fatal("too few", bad)
	}
}

// A clock holds just where it lags; and behind any reading that is well it lags just as far as it did.
func TestAClockHoldsWhereItLags(t *testing.T) {
	draw := &lottery{state: 55}
	count := map[bool]int{}
	for range 20000 {
		now := draw.looks(1, 60)[0].Now
		a := had(draw.number(80) - 40)
		lag := impl.AppLag(a, now)
		then, value, holds, code := impl.AppRead(a, true, now)
		if code != impl.ReadWell || holds != (lag > 0) || impl.AppLag(then, now) != lag || lag > 0 && value != now.Hi+lag {
			t.Fatalf("%v at %v lags by %d: %v, %d, %v, %d", a, now, lag, then, value, holds, code)
		}
		count[holds]++
	}
	if count[true] < 1000 || count[false] < 1000 {
		t.Fatal("too few of a kind", count)
	}
}

// P12: what a clock that has none tells may be, whatever it tells within its intervals: the ends, the middle, or any number.
func TestWhatAnyClockTellsMayBe(t *testing.T) {
	draw := &lottery{state: 4}
	tells := map[string]func(now impl.Ival) int{
		"low":    func(now impl.Ival) int { return now.Lo },
		"high":   func(now impl.Ival) int { return now.Hi },
		"middle": func(now impl.Ival) int { return wantMiddle(now).n },
		"any":    func(now impl.Ival) int { return now.Lo + draw.number(now.Hi-now.Lo+1) },
	}
	for name, tell := range tells {
		for range 500 {
			list := draw.looks(draw.number(impl.MaxLooks+1), 2+draw.number(300))
			var last impl.App
			var reads []impl.Reading
			for _, l := range list {
				switch {
				case !l.Known && !last.Has:
					reads = append(reads, unsure())
					continue
				case !l.Known || last.Has && last.Last > l.Now.Hi:
					reads = append(reads, stays(last.Last))
					continue
				}
				value := tell(l.Now)
				if last.Has {
					value = max(value, last.Last)
				}
				reads, last = append(reads, newly(value)), had(value)
			}
			if !impl.ReadsOk(list, reads) {
				t.Fatalf("%s: %v may not be by %v", name, reads, list)
			}
			checkNeverFall(t, list, reads)
		}
	}
}

// Readings that may be never fall, each lies in its interval, or above it and is the one ahead again.
func TestReadingsThatMayBeNeverFall(t *testing.T) {
	pool := lookReads(looks(blind(), look(-1, 0), look(0, 1), look(-1, -1), look(-1, 1)), []int{-1, 0, 1}, []int{impl.ReadWell, impl.ReadUnsure})
	may := 0
	for _, one := range listsOf(pool, 3) {
		if list, reads := apartOf(one); impl.ReadsOk(list, reads) {
			checkNeverFall(t, list, reads)
			may++
		}
	}
	if may < 500 {
		t.Fatal("too few", may)
	}
}

// One reading changed, in each of the ways in which it can be no clock's.
func brokenReadings(l impl.Look, last impl.App, r impl.Reading) map[string]impl.Reading {
	broken := map[string]impl.Reading{
		"the other holds":  {Value: r.Value, Holds: !r.Holds, Code: r.Code},
		"not to be read":   {Value: r.Value, Holds: r.Holds, Code: impl.ReadBad},
		"an unknown code":  {Value: r.Value, Holds: r.Holds, Code: 3},
		"a code below 0":   {Value: r.Value, Holds: r.Holds, Code: -1},
		"the other code":   {Value: r.Value, Holds: r.Holds, Code: impl.ReadWell + impl.ReadUnsure - r.Code},
		"the greatest int": {Value: math.MaxInt, Holds: r.Holds, Code: r.Code},
		"the least int":    {Value: math.MinInt, Holds: r.Holds, Code: r.Code},
	}
	if !l.Known || r.Holds {
		broken["one more"] = impl.Reading{Value: r.Value + 1, Holds: r.Holds, Code: r.Code}
		broken["one less"] = impl.Reading{Value: r.Value - 1, Holds: r.Holds, Code: r.Code}
		return broken
	}
	broken["above the interval"] = newly(l.Now.Hi + 1)
	broken["below the interval"] = newly(l.Now.Lo - 1)
	if last.Has {
		broken["below the one ahead"] = newly(last.Last - 1)
		broken["the one ahead, held"] = stays(last.Last)
	}
	return broken
}

// P12: what AppRun tells may be, and with one reading changed it may not where the document says so.
func TestAReadingThatIsChangedMayNotBe(t *testing.T) {
	draw := &lottery{state: 20}
	count := map[string]int{}
	for range 300 {
		list := draw.looks(1+draw.number(40), 2+draw.number(90))
		reads, _ := impl.AppRun(impl.App{}, list)
		checkReadsOk(t, list, reads, true)
		for i, r := range reads {
			var ahead impl.App
			ahead.Last, ahead.Has = lastWell(reads[:i])
			for name, wrong := range brokenReadings(list[i], ahead, r) {
				changed := slices.Clone(reads)
				changed[i] = wrong
				if impl.ReadsOk(list, changed) || wantReadsOk(list, changed) {
					t.Fatalf("%s at %d: %v may be by %v", name, i, changed, list)
				}
				count[name]++
			}
		}
	}
	if len(count) != 13 {
		t.Fatal("not all kinds", count)
	}
	for name, n := range count {
		if n < 1000 {
			t.Fatal("too few of a kind", name, n)
		}
	}
}

// One reading changed to any number near it: it may be or not just as the document says, by all that comes behind it, too.
func TestAReadingThatIsMovedMayBeOrNot(t *testing.T) {
	draw := &lottery{state: 33}
	count := map[bool]int{}
	for range 2000 {
		list := draw.looks(1+draw.number(12), 2+draw.number(60))
		reads, _ := impl.AppRun(impl.App{}, list)
		i := draw.number(len(list))
		for by := -8; by <= 8; by++ {
			changed := slices.Clone(reads)
			changed[i].Value += by
			want := wantReadsOk(list, changed)
			checkReadsOk(t, list, changed, want)
			count[want]++
		}
	}
	if count[true] < 3000 || count[false] < 3000 {
		t.Fatal("too few of a kind", count)
	}
}

// P23: lists are not written into, nor the spare room behind them; readings have memory of their own.
func TestReadingsShareNothing(t *testing.T) {
	draw := &lottery{state: 90}
	for _, n := range []int{0, 1, 2, 3, 60, impl.MaxLooks - 1, impl.MaxLooks, impl.MaxLooks + 1} {
		room := append(draw.looks(n, 50), wrongLooks()...)
		kept, list := slices.Clone(room), room[:n]
		one, then := impl.AppRun(had(3), list)
		other, _ := impl.AppRun(had(3), list)
		told := slices.Clone(one)
		if !slices.Equal(room, kept) || !slices.Equal(other, told) {
			t.Fatalf("%v: %v, %v; the room is %v", kept[:n], one, other, room)
		}
		overwrite(one, unread())
		if !slices.Equal(room, kept) || !slices.Equal(other, told) {
			t.Fatalf("%v: an answer was written into: %v, %v", kept[:n], other, room)
		}
		overwrite(room, look(8, 7))
		if !slices.Equal(other, told) {
			t.Fatalf("%v: the looks were written into, and the answer is %v", kept[:n], other)
		}
		if want := wantAppRun(had(3), kept[:n]); !sameRun(runAnswer{told, then}, want) {
			t.Fatalf("%v: %v, %v", kept[:n], told, then)
		}
	}
}

func TestReadsOkWritesNowhere(t *testing.T) {
	draw := &lottery{state: 91}
	for _, n := range []int{0, 1, 2, 3, 60, impl.MaxLooks - 1, impl.MaxLooks, impl.MaxLooks + 1} {
		list := append(draw.looks(n, 50), look(8, 7), blind())
		reads := append(readings(), wantAppRun(impl.App{}, list[:min(n, impl.MaxLooks)]).reads...)
		reads = append(reads, slices.Repeat(readings(unread()), len(list)-len(reads))...)
		keptLooks, keptReads := slices.Clone(list), slices.Clone(reads)
		for range 3 {
			checkReadsOk(t, list[:n], reads[:n], n <= impl.MaxLooks)
			checkReadsOk(t, list, reads, false)
			checkReadsOk(t, list[:n], reads, false)
		}
		if !slices.Equal(list, keptLooks) || !slices.Equal(reads, keptReads) {
			t.Fatalf("written into: %v, %v", list, reads)
		}
	}
}

// P23: a call that is made again answers the same, whatever was asked between.
func TestReadingsAreTheSameEachTime(t *testing.T) {
	a, now := had(15), iv(0, 12)
	list := looks(blind(), look(10, 20), blind(), look(6, 5), look(0, 12))
	want := readings(unsure(), newly(15), stays(15), unread(), stays(15))
	for range 50 {
		checkAppOk(t, a, true)
		checkAppRead(t, a, impl.Look{Known: true, Now: now}, holdsAt(15))
		checkAppLag(t, a, now, 3)
		checkAppRun(t, impl.App{}, list, runAnswer{want, had(15)})
		checkAppRead(t, impl.App{}, blind(), appCode(impl.ReadUnsure))
		checkReadsOk(t, list[:3], want[:3], true)
		checkReadsOk(t, list, want, false)
	}
	if a != had(15) || now != iv(0, 12) {
		t.Fatal("an argument was written into", a, now)
	}
}
