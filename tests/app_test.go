package tests

import (
	"math"
	"slices"
	"testing"

	"loop.example/g00072/impl"
)

func checkAppOk(t *testing.T, a impl.App, want bool) {
	t.Helper()
	if got := impl.AppOk(a); got != want {
		t.Fatalf("AppOk(%v) is %v", a, got)
	}
}

func checkAppRead(t *testing.T, a impl.App, l impl.Look, want appAnswer) {
	t.Helper()
	next, value, holds, code := impl.AppRead(a, l.Known, l.Now)
	if got := (appAnswer{next, value, holds, code}); got != want {
		t.Fatalf("AppRead(%v, %v): got %v, want %v", a, l, got, want)
	}
}

func checkAppLag(t *testing.T, a impl.App, now impl.Ival, want int) {
	t.Helper()
	if got := impl.AppLag(a, now); got != want {
		t.Fatalf("AppLag(%v, %v) is %d, want %d", a, now, got, want)
	}
}

func checkAppRun(t *testing.T, a impl.App, list []impl.Look, want runAnswer) {
	t.Helper()
	reads, then := impl.AppRun(a, list)
	if got := (runAnswer{reads, then}); !sameRun(got, want) {
		t.Fatalf("AppRun(%v, %v): got %v, want %v", a, list, got, want)
	}
}

func checkReadsOk(t *testing.T, list []impl.Look, reads []impl.Reading, want bool) {
	t.Helper()
	if got := impl.ReadsOk(list, reads); got != want {
		t.Fatalf("ReadsOk(%v, %v) is %v", list, reads, got)
	}
}

// A reading that goes on, and one that holds: the clock behind either has it as its last.
func goesOn(value int) appAnswer { return appAnswer{had(value), value, false, impl.ReadWell} }

func holdsAt(value int) appAnswer { return appAnswer{had(value), value, true, impl.ReadWell} }

func appCode(code int) appAnswer { return appAnswer{code: code} }

func TestLimitsOfTheClock(t *testing.T) {
	if impl.MaxLooks != 200 || impl.ReadWell != 0 || impl.ReadBad != 1 || impl.ReadUnsure != 2 {
		t.Error(impl.MaxLooks, impl.ReadWell, impl.ReadBad, impl.ReadUnsure)
	}
}

func TestAppOk(t *testing.T) {
	for _, a := range rightApps() {
		checkAppOk(t, a, true)
	}
	for _, a := range wrongApps() {
		checkAppOk(t, a, false)
	}
	for _, a := range edgeApps() {
		checkAppOk(t, a, wantAppOk(a))
	}
}

func TestAppReadOrdinary(t *testing.T) {
	checkAppRead(t, impl.App{}, look(10, 20), goesOn(15))
	checkAppRead(t, had(15), look(0, 12), holdsAt(15))
	checkAppRead(t, had(15), look(0, 20), goesOn(15))
	checkAppRead(t, had(15), look(30, 40), goesOn(35))
	checkAppRead(t, had(15), blind(), holdsAt(15))
	checkAppRead(t, impl.App{}, blind(), appCode(impl.ReadUnsure))
}

// Last at now's Hi goes on, for it lies in now; one above it holds.
func TestAppReadAtTheUpperEnd(t *testing.T) {
	for _, hi := range []int{20, 1, 0, -1, -20, far - 1, far, -far, -far + 1} {
		for _, wide := range []int{0, 1, 2, 7, 30} {
			lo := max(hi-wide, -far)
			checkAppRead(t, had(hi), look(lo, hi), goesOn(hi))
			checkAppLag(t, had(hi), iv(lo, hi), 0)
			if hi < far {
				checkAppRead(t, had(hi+1), look(lo, hi), holdsAt(hi+1))
				checkAppLag(t, had(hi+1), iv(lo, hi), 1)
			}
		}
	}
}

// Last at the middle, one above it and one below it; middles go down also below 0.
func TestAppReadAroundTheMiddle(t *testing.T) {
	cases := []struct {
		now    impl.Ival
		middle int
	}{
		{iv(10, 20), 15}, {iv(10, 21), 15}, {iv(0, 3), 1}, {iv(-3, 0), -2}, {iv(-4, 0), -2}, {iv(-21, -10), -16}, {iv(-20, -10), -15},
		{iv(-2, 1), -1}, {iv(-1, 2), 0}, {iv(-far, far), 0}, {iv(-far, far-1), -1}, {iv(-far, -far+2), -far + 1}, {iv(-far, -far+3), -far + 1}, {iv(far-3, far), far - 2},
	}
	for _, c := range cases {
		now := impl.Look{Known: true, Now: c.now}
		checkAppRead(t, impl.App{}, now, goesOn(c.middle))
		checkAppRead(t, had(c.middle-1), now, goesOn(c.middle))
		checkAppRead(t, had(c.middle), now, goesOn(c.middle))
		checkAppRead(t, had(c.middle+1), now, goesOn(c.middle+1))
		checkAppRead(t, had(-far), now, goesOn(c.middle))
	}
}

// An interval of one number has it as its middle and its end.
func TestAppReadOfOneNumber(t *testing.T) {
	for _, n := range []int{0, 1, -1, 9, -9, far, -far} {
		checkAppRead(t, impl.App{}, look(n, n), goesOn(n))
		checkAppRead(t, had(n), look(n, n), goesOn(n))
		if n > -far {
			checkAppRead(t, had(n-1), look(n, n), goesOn(n))
		}
		if n < far {
			checkAppRead(t, had(n+1), look(n, n), holdsAt(n+1))
		}
	}
}

// A clock without a reading has no last one, whatever 0 would be against the interval.
func TestAppReadTheFirstTime(t *testing.T) {
	checkAppRead(t, impl.App{}, look(-20, -10), goesOn(-15))
	checkAppRead(t, had(0), look(-20, -10), holdsAt(0))
	checkAppRead(t, impl.App{}, look(-20, 6), goesOn(-7))
	checkAppRead(t, had(0), look(-20, 6), goesOn(0))
	checkAppRead(t, impl.App{}, look(-far, -far), goesOn(-far))
	checkAppLag(t, impl.App{}, iv(-20, -10), 0)
	checkAppLag(t, had(0), iv(-20, -10), 10)
}

// Where nothing is known the interval is not looked at, so it may be none.
func TestAppReadWhereNothingIsKnown(t *testing.T) {
	for _, now := range slices.Concat(wrongSources(), rightSources()) {
		l := impl.Look{Now: now}
		checkAppRead(t, impl.App{}, l, appCode(impl.ReadUnsure))
		for _, last := range []int{0, 5, -5, far, -far} {
			checkAppRead(t, had(last), l, holdsAt(last))
		}
	}
}

// Wrong inputs: a clock that is none, at any look; and an interval that is none, where it is known, at any clock.
func TestAppReadRefuses(t *testing.T) {
	for _, a := range wrongApps() {
		checkAppRead(t, a, blind(), appCode(impl.ReadBad))
		for _, now := range slices.Concat(wrongSources(), rightSources()) {
			checkAppRead(t, a, impl.Look{Now: now}, appCode(impl.ReadBad))
			checkAppRead(t, a, impl.Look{Known: true, Now: now}, appCode(impl.ReadBad))
		}
	}
	for _, a := range rightApps() {
		for _, l := range wrongLooks() {
			checkAppRead(t, a, l, appCode(impl.ReadBad))
		}
	}
}

func TestAppLag(t *testing.T) {
	checkAppLag(t, had(15), iv(0, 12), 3)
	checkAppLag(t, had(15), iv(0, 14), 1)
	checkAppLag(t, had(15), iv(0, 15), 0)
	checkAppLag(t, had(15), iv(0, 16), 0)
	checkAppLag(t, had(15), iv(40, 50), 0)
	checkAppLag(t, had(-15), iv(-40, -30), 15)
	checkAppLag(t, had(far), iv(-far, -far), 2*far)
	checkAppLag(t, had(-far), iv(far, far), 0)
	for _, now := range wrongSources() {
		for _, a := range slices.Concat(rightApps(), wrongApps()) {
			checkAppLag(t, a, now, 0)
		}
	}
	for _, a := range wrongApps() {
		checkAppLag(t, a, iv(-far, -far), 0)
		checkAppLag(t, a, iv(-far, -1), 0)
	}
}

// Every function of one look against the document's words, at each limit and around 0.
func TestOneLookAsTheDocumentSays(t *testing.T) {
	apps := edgeApps()
	for _, last := range smallNumbers() {
		apps = append(apps, had(last), impl.App{Last: last})
	}
	codes := map[int]int{}
	for _, now := range slices.Concat(ivalsOf(edgeNumbers()), ivalsOf(smallNumbers())) {
		for _, a := range apps {
			checkAppLag(t, a, now, wantAppLag(a, now))
			for _, known := range []bool{false, true} {
				want := wantAppRead(a, known, now)
				checkAppRead(t, a, impl.Look{Known: known, Now: now}, want)
				codes[want.code]++
			}
		}
	}
	if codes[impl.ReadWell] < 1000 || codes[impl.ReadBad] < 1000 || codes[impl.ReadUnsure] < 500 {
		t.Fatal("too few of a kind", codes)
	}
}

func TestAppRunOrdinary(t *testing.T) {
	list := looks(blind(), look(10, 20), blind(), look(0, 12), look(0, 20), look(16, 30))
	want := readings(unsure(), newly(15), stays(15), stays(15), newly(15), newly(23))
	checkAppRun(t, impl.App{}, list, runAnswer{want, had(23)})
	want[0], want[1] = stays(18), newly(18)
	want[2], want[3], want[4] = stays(18), stays(18), newly(18)
	checkAppRun(t, had(18), list, runAnswer{want, had(23)})
}

// No look leaves the clock as it was, also one that is none.
func TestAppRunOfNoLook(t *testing.T) {
	for _, a := range slices.Concat(rightApps(), wrongApps()) {
		checkAppRun(t, a, nil, runAnswer{nil, a})
		checkAppRun(t, a, looks(), runAnswer{nil, a})
	}
}

// Looks that can't be read leave the clock as it was, so that what comes behind them is as if they had not been.
func TestAppRunBesideLooksThatAreBad(t *testing.T) {
	for _, bad := range wrongLooks() {
		list := looks(bad, blind(), bad, look(10, 20), bad, blind(), bad, look(0, 12), bad)
		want := readings(unread(), unsure(), unread(), newly(15), unread(), stays(15), unread(), stays(15), unread())
		checkAppRun(t, impl.App{}, list, runAnswer{want, had(15)})
		checkAppRun(t, impl.App{}, looks(bad), runAnswer{readings(unread()), impl.App{}})
		checkAppRun(t, had(7), looks(bad, bad), runAnswer{readings(unread(), unread()), had(7)})
	}
}

// A clock that is none can't be read, and is told as it was.
func TestAppRunOfAClockThatIsNone(t *testing.T) {
	for _, a := range wrongApps() {
		list := looks(blind(), look(10, 20), wrongLooks()[0], look(-far, far))
		checkAppRun(t, a, list, runAnswer{readings(unread(), unread(), unread(), unread()), a})
	}
}

func looksWith(n int) []impl.Look {
	var list []impl.Look
	for i := range n {
		list = append(list, look(10*i, 10*i+5))
	}
	return list
}

func TestAppRunOfManyLooks(t *testing.T) {
	for _, a := range slices.Concat(rightApps(), wrongApps()) {
		for _, n := range []int{1, impl.MaxLooks - 1, impl.MaxLooks} {
			checkAppRun(t, a, looksWith(n), wantAppRun(a, looksWith(n)))
			if reads, _ := impl.AppRun(a, looksWith(n)); len(reads) != n {
				t.Fatalf("%d readings of %d looks", len(reads), n)
			}
		}
		for _, n := range []int{impl.MaxLooks + 1, impl.MaxLooks + 2, 3 * impl.MaxLooks} {
			checkAppRun(t, a, looksWith(n), runAnswer{nil, a})
		}
	}
	// More than MaxLooks at which nothing is known, and that are bad.
	checkAppRun(t, had(4), make([]impl.Look, impl.MaxLooks+1), runAnswer{nil, had(4)})
	checkAppRun(t, had(4), slices.Repeat(looks(look(6, 5)), impl.MaxLooks+1), runAnswer{nil, had(4)})
}

func TestAppRunAsTheDocumentSays(t *testing.T) {
	for _, list := range listsOf(smallLooks(), 3) {
		for _, a := range []impl.App{{}, had(-3), had(-1), had(0), had(2), {Last: 1}, had(far + 1)} {
			checkAppRun(t, a, list, wantAppRun(a, list))
		}
	}
	draw := &lottery{state: 12}
	for range 300 {
		list := draw.looks(draw.number(impl.MaxLooks+1), 2+draw.number(100))
		checkAppRun(t, impl.App{}, list, wantAppRun(impl.App{}, list))
		a := had(draw.number(100) - 50)
		checkAppRun(t, a, list, wantAppRun(a, list))
	}
}

// Looks, readings, and whether the readings may be.
type readsCase struct {
	name  string
	list  []impl.Look
	reads []impl.Reading
	want  bool
}

func checkReadsCases(t *testing.T, cases []readsCase) {
	t.Helper()
	for _, c := range cases {
		if got := impl.ReadsOk(c.list, c.reads); got != c.want {
			t.Errorf("%s: ReadsOk(%v, %v) is %v", c.name, c.list, c.reads, got)
		}
	}
}

// A clock may tell any number of its interval, not only the middle.
func TestReadsOkWithinTheInterval(t *testing.T) {
	for value := 8; value <= 22; value++ {
		checkReadsOk(t, looks(look(10, 20)), readings(newly(value)), value >= 10 && value <= 20)
	}
	for _, a := range rightSources() {
		l := looks(impl.Look{Known: true, Now: a})
		checkReadsOk(t, l, readings(newly(a.Lo)), true)
		checkReadsOk(t, l, readings(newly(a.Hi)), true)
		checkReadsOk(t, l, readings(newly(a.Lo-1)), false)
		checkReadsOk(t, l, readings(newly(a.Hi+1)), false)
		checkReadsOk(t, l, readings(newly(math.MinInt)), false)
		checkReadsOk(t, l, readings(newly(math.MaxInt)), false)
	}
}

// Behind a reading of 15: one that does not hold is in the interval and not below; one that holds is 15 again and above the interval.
func TestReadsOkBehindAReading(t *testing.T) {
	first := look(10, 20)
	for value := -1; value <= 42; value++ {
		behind := func(l impl.Look, r impl.Reading, want bool) {
			t.Helper()
			checkReadsOk(t, looks(first, l), readings(newly(15), r), want)
		}
		behind(look(0, 40), newly(value), value >= 15 && value <= 40)
		behind(look(15, 18), newly(value), value >= 15 && value <= 18)
		behind(look(16, 18), newly(value), value >= 16 && value <= 18)
		behind(look(0, 15), newly(value), value == 15)
		behind(look(0, 14), newly(value), false)
		behind(look(0, 14), stays(value), value == 15)
		behind(look(0, 15), stays(value), false)
		behind(look(0, 16), stays(value), false)
		behind(look(30, 40), stays(value), false)
		behind(blind(), stays(value), value == 15)
		behind(blind(), newly(value), false)
	}
}

// What holds holds to a reading of ReadWell ahead, so without one nothing can hold.
func TestReadsOkWithNoneAhead(t *testing.T) {
	for value := -12; value <= 12; value++ {
		checkReadsOk(t, looks(look(-9, -5)), readings(stays(value)), false)
		checkReadsOk(t, looks(blind()), readings(stays(value)), false)
		checkReadsOk(t, looks(blind()), readings(newly(value)), false)
		checkReadsOk(t, looks(blind(), look(-9, -5)), readings(unsure(), stays(value)), false)
		checkReadsOk(t, looks(blind(), blind()), readings(unsure(), stays(value)), false)
		// What is told below 0 is not below a reading that is not there.
		checkReadsOk(t, looks(blind(), look(-9, 5)), readings(unsure(), newly(value)), value >= -9 && value <= 5)
	}
}

func TestReadsOkOfUnsure(t *testing.T) {
	all := look(-far, far)
	checkReadsCases(t, []readsCase{
		{"nothing is known", looks(blind()), readings(unsure()), true},
		{"again and again", looks(blind(), blind(), blind()), readings(unsure(), unsure(), unsure()), true},
		{"with an interval that is none, and is not known", looks(impl.Look{Now: iv(6, 5)}), readings(unsure()), true},
		{"where something is known", looks(all), readings(unsure()), false},
		{"with a value above 0", looks(blind()), readings(impl.Reading{Value: 1, Code: impl.ReadUnsure}), false},
		{"with a value below 0", looks(blind()), readings(impl.Reading{Value: -1, Code: impl.ReadUnsure}), false},
		{"that holds", looks(blind()), readings(impl.Reading{Holds: true, Code: impl.ReadUnsure}), false},
		{"ahead of one that is well", looks(blind(), all), readings(unsure(), newly(3)), true},
		{"behind one that is well", looks(all, blind()), readings(newly(3), unsure()), false},
		{"behind one that is well, of 0", looks(all, blind()), readings(newly(0), unsure()), false},
		{"far behind one that is well", looks(blind(), all, blind(), blind()), readings(unsure(), newly(3), stays(3), unsure()), false},
		{"two ahead and one behind", looks(blind(), blind(), all, blind()), readings(unsure(), unsure(), newly(3), unsure()), false},
	})
}

// Codes that a reading can't have: that of what can't be read, also where it can't, and such as are none.
func TestReadsOkOfOtherCodes(t *testing.T) {
	for _, code := range []int{impl.ReadBad, 3, 4, -1, math.MaxInt, math.MinInt} {
		for _, l := range []impl.Look{blind(), look(0, 5), look(-far, far), look(6, 5), look(0, far+1)} {
			for _, value := range []int{0, 3} {
				for _, holds := range []bool{false, true} {
					r := impl.Reading{Value: value, Holds: holds, Code: code}
					checkReadsOk(t, looks(l), readings(r), false)
					checkReadsOk(t, looks(look(3, 9), l), readings(newly(3), r), false)
					checkReadsOk(t, looks(l, look(3, 9)), readings(r, newly(3)), false)
				}
			}
		}
	}
}

// A known interval that is none can have no reading; one that is not known is not looked at.
func TestReadsOkOfIntervalsThatAreNone(t *testing.T) {
	for _, now := range wrongSources() {
		for _, value := range []int{0, now.Lo, now.Hi, far, -far} {
			for _, r := range readings(newly(value), stays(value), unsure(), unread()) {
				checkReadsOk(t, looks(impl.Look{Known: true, Now: now}), readings(r), false)
				checkReadsOk(t, looks(look(-far, far), impl.Look{Known: true, Now: now}), readings(newly(value), r), false)
			}
		}
		hidden := impl.Look{Now: now}
		checkReadsOk(t, looks(hidden, look(0, 9), hidden), readings(unsure(), newly(4), stays(4)), true)
	}
}

func TestReadsOkOfAsMany(t *testing.T) {
	checkReadsOk(t, nil, nil, true)
	checkReadsOk(t, looks(), readings(), true)
	checkReadsOk(t, nil, readings(unsure()), false)
	checkReadsOk(t, looks(blind()), nil, false)
	for _, n := range []int{1, 2, 50, impl.MaxLooks - 1, impl.MaxLooks} {
		list := looksWith(n)
		reads, _ := impl.AppRun(impl.App{}, list)
		checkReadsOk(t, list, reads, true)
		checkReadsOk(t, list, reads[:n-1], false)
		checkReadsOk(t, list[:n-1], reads, false)
		checkReadsOk(t, list[:n-1], reads[:n-1], true)
		checkReadsOk(t, list, append(slices.Clone(reads), stays(reads[n-1].Value)), false)
		checkReadsOk(t, append(slices.Clone(list), blind()), reads, false)
	}
}

// Readings one by one as a clock would tell them, of which there are one too many.
func TestReadsOkOfTooMany(t *testing.T) {
	list, reads := looksWith(impl.MaxLooks), readings()
	for _, l := range list {
		reads = append(reads, newly(l.Now.Lo))
	}
	checkReadsOk(t, list, reads, true)
	last := reads[impl.MaxLooks-1].Value
	checkReadsOk(t, append(list, blind()), append(reads, stays(last)), false)
	checkReadsOk(t, append(list, blind(), blind()), append(reads, stays(last), stays(last)), false)
	checkReadsOk(t, make([]impl.Look, impl.MaxLooks), slices.Repeat(readings(unsure()), impl.MaxLooks), true)
	checkReadsOk(t, make([]impl.Look, impl.MaxLooks+1), slices.Repeat(readings(unsure()), impl.MaxLooks+1), false)
}

// A look with what was told of it.
type lookRead struct {
	l impl.Look
	r impl.Reading
}

func apartOf(list []lookRead) ([]impl.Look, []impl.Reading) {
	var all []impl.Look
	var reads []impl.Reading
	for _, one := range list {
		all, reads = append(all, one.l), append(reads, one.r)
	}
	return all, reads
}

// Each of these looks with each reading of these values and codes.
func lookReads(list []impl.Look, values, codes []int) []lookRead {
	var all []lookRead
	for _, l := range list {
		for _, value := range values {
			for _, code := range codes {
				for _, holds := range []bool{false, true} {
					all = append(all, lookRead{l, impl.Reading{Value: value, Holds: holds, Code: code}})
				}
			}
		}
	}
	return all
}

func TestReadsOkAsTheDocumentSays(t *testing.T) {
	count := map[bool]int{}
	check := func(pool []lookRead, most int) {
		for _, one := range listsOf(pool, most) {
			list, reads := apartOf(one)
			want := wantReadsOk(list, reads)
			checkReadsOk(t, list, reads, want)
			count[want]++
		}
	}
	all := append(smallLooks(), look(0, far+1), look(-far, far), impl.Look{Now: iv(1, -1)})
	check(lookReads(all, []int{-3, -1, 0, 1, far, far + 1}, []int{impl.ReadWell, impl.ReadUnsure, impl.ReadBad, 3}), 1)
	check(lookReads(all, []int{-2, -1, 0, 1}, []int{impl.ReadWell, impl.ReadUnsure}), 2)
	check(lookReads(looks(blind(), look(-1, 0), look(0, 1), look(-1, -1), look(-1, 1)), []int{-1, 0, 1}, []int{impl.ReadWell, impl.ReadUnsure}), 3)
	if count[true] < 500 || count[false] < 1000 {
		t.Fatal("too few of a kind", count)
	}
}
