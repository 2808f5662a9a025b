package tests

import (
	"math"
	"slices"
	"testing"

	"loop.example/g00072/impl"
)

func TestCodesOfAsksAreNumbered(t *testing.T) {
	codes := [6]int{impl.AskDone, impl.AskBad, impl.AskSpent, impl.AskFull, impl.AskNone, impl.AskOther}
	if codes != [6]int{0, 1, 2, 3, 4, 5} {
		t.Error(codes)
	}
}

func checkNonceOf(t *testing.T, epoch, k int, want numAnswer) {
	t.Helper()
	n, ok := impl.NonceOf(epoch, k)
	if got := (numAnswer{n, ok}); got != want {
		t.Fatalf("NonceOf(%d, %d): got %v, want %v", epoch, k, got, want)
	}
}

func checkParts(t *testing.T, n int, want partsAnswer) {
	t.Helper()
	epoch, k, ok := impl.NonceParts(n)
	if got := (partsAnswer{epoch, k, ok}); got != want {
		t.Fatalf("NonceParts(%d): got %v, want %v", n, got, want)
	}
}

func checkIssue(t *testing.T, tab impl.Table, to, at int, want issueAnswer) {
	t.Helper()
	got, nonce, code := impl.Issue(tab, to, at)
	if !sameTable(got, want.table) || nonce != want.nonce || code != want.code {
		t.Fatalf("Issue(%v, %d, %d): got %v, %d, %d, want %v", tab, to, at, got, nonce, code, want)
	}
}

func checkUse(t *testing.T, tab impl.Table, nonce, from int, want useAnswer) {
	t.Helper()
	got, a, code := impl.Use(tab, nonce, from)
	if !sameTable(got, want.table) || a != want.a || code != want.code {
		t.Fatalf("Use(%v, %d, %d): got %v, %v, %d, want %v", tab, nonce, from, got, a, code, want)
	}
}

func checkExpire(t *testing.T, tab impl.Table, at, patience int, want expireAnswer) {
	t.Helper()
	got, gone := impl.ExpireAsks(tab, at, patience)
	if !sameTable(got, want.table) || !slices.Equal(gone, want.gone) {
		t.Fatalf("ExpireAsks(%v, %d, %d): got %v, %v, want %v", tab, at, patience, got, gone, want)
	}
}

func checkAgain(t *testing.T, tab impl.Table, at, patience int, want againAnswer) {
	t.Helper()
	got, came, left := impl.Again(tab, at, patience)
	if !sameTable(got, want.table) || !slices.Equal(came, want.came) || !slices.Equal(left, want.left) {
		t.Fatalf("Again(%v, %d, %d): got %v, %v, %v, want %v", tab, at, patience, got, came, left, want)
	}
}

func checkReboot(t *testing.T, tab impl.Table, epoch int, want rebootAnswer) {
	t.Helper()
	got, code := impl.Reboot(tab, epoch)
	if !sameTable(got, want.table) || code != want.code {
		t.Fatalf("Reboot(%v, %d): got %v, %d, want %v", tab, epoch, got, code, want)
	}
}

func TestNonceOfAtItsLimits(t *testing.T) {
	const most, last = impl.MaxEpoch, impl.NoncesEach - 1
	cases := []struct {
		epoch, k int
		want     numAnswer
	}{
		{0, 0, numAnswer{0, true}},
		{2, 7, numAnswer{2007, true}},
		{0, last, numAnswer{999, true}},
		{1, 0, numAnswer{1000, true}},
		{most, 0, numAnswer{100000000, true}},
		{most, last, numAnswer{100000999, true}},
		{most - 1, last, numAnswer{99999999, true}},
		{-1, 0, numAnswer{}},
		{-1, last, numAnswer{}},
		{most + 1, 0, numAnswer{}},
		{most + 1, last, numAnswer{}},
		{0, -1, numAnswer{}},
		{1, -1, numAnswer{}},
		{0, last + 1, numAnswer{}},
		{most, last + 1, numAnswer{}},
		{most, -1, numAnswer{}},
		{most + 1, -1, numAnswer{}},
		{-1, last + 1, numAnswer{}},
		{math.MinInt, 0, numAnswer{}},
		{math.MaxInt, 0, numAnswer{}},
		{0, math.MinInt, numAnswer{}},
		{0, math.MaxInt, numAnswer{}},
		{math.MinInt, math.MinInt, numAnswer{}},
		{math.MaxInt, math.MaxInt, numAnswer{}},
	}
	for _, c := range cases {
		checkNonceOf(t, c.epoch, c.k, c.want)
	}
}

func TestNoncePartsAtItsLimits(t *testing.T) {
	cases := []struct {
		n    int
		want partsAnswer
	}{
		{0, partsAnswer{0, 0, true}},
		{1, partsAnswer{0, 1, true}},
		{999, partsAnswer{0, 999, true}},
		{1000, partsAnswer{1, 0, true}},
		{2007, partsAnswer{2, 7, true}},
		{99999999, partsAnswer{99999, 999, true}},
		{100000000, partsAnswer{100000, 0, true}},
		{impl.MaxNonce, partsAnswer{impl.MaxEpoch, 999, true}},
		{impl.MaxNonce + 1, partsAnswer{}},
		{-1, partsAnswer{}},
		{-999, partsAnswer{}},
		{-1000, partsAnswer{}},
		{-1001, partsAnswer{}},
		{math.MinInt, partsAnswer{}},
		{math.MinInt + 1, partsAnswer{}},
		{math.MaxInt, partsAnswer{}},
	}
	for _, c := range cases {
		checkParts(t, c.n, c.want)
	}
}

// P7: no two pairs of an epoch and a k have one nonce, and each nonce has its parts.
func TestNoncesAreApart(t *testing.T) {
	before := -1
	for epoch := range impl.MaxEpoch + 1 {
		for k := range impl.NoncesEach {
			// Every epoch with its first and last ones, and some of them with all.
			if epoch%9973 != 0 && k != 0 && k != 1 && k != 501 && k < impl.NoncesEach-2 {
				continue
			}
			n, ok := impl.NonceOf(epoch, k)
			if !ok || n <= before {
				t.Fatalf("NonceOf(%d, %d) is %d, %v, behind %d", epoch, k, n, ok, before)
			}
			before = n
			checkParts(t, n, partsAnswer{epoch, k, true})
		}
	}
	if before != impl.MaxNonce {
		t.Error("the last nonce is", before)
	}
}

func TestNoncesAgainstTheModel(t *testing.T) {
	numbers := slices.Concat(edgeNumbers(), []int{999, 1000, 1001, 99999, 100000, 100001, 99999999, 100000000, 100000998, 100000999, 100001000})
	for n := -3; n < 5000; n++ {
		numbers = append(numbers, n)
	}
	for _, n := range numbers {
		checkParts(t, n, wantNonceParts(n))
		checkParts(t, -n, wantNonceParts(-n))
		for _, other := range numbers[:60] {
			checkNonceOf(t, n, other, wantNonceOf(n, other))
			checkNonceOf(t, other, n, wantNonceOf(other, n))
		}
	}
}

// Asks at the limits of a table of epoch 2 with 5 nonces used, and one beyond.
func edgeAsks() (right, wrong []impl.Ask) {
	right = []impl.Ask{
		ak(2002, 0, 0, 1),
		ak(2002, impl.MaxNodes-1, 0, 1),
		ak(2002, 3, far, 1),
		ak(2002, 3, 0, impl.MaxTries),
		ak(2002, impl.MaxNodes-1, far, impl.MaxTries),
	}
	wrong = []impl.Ask{
		ak(2002, -1, 0, 1),
		ak(2002, impl.MaxNodes, 0, 1),
		ak(2002, math.MinInt, 0, 1),
		ak(2002, math.MaxInt, 0, 1),
		ak(2002, 0, -1, 1),
		ak(2002, 0, far+1, 1),
		ak(2002, 0, math.MinInt, 1),
		ak(2002, 0, math.MaxInt, 1),
		ak(2002, 0, 0, 0),
		ak(2002, 0, 0, -1),
		ak(2002, 0, 0, impl.MaxTries+1),
		ak(2002, 0, 0, math.MinInt),
		ak(2002, 0, 0, math.MaxInt),
		{},
	}
	return right, wrong
}

// Tables that are none, with the reason.
func wrongTables() map[string]impl.Table {
	many := tableWith(2, impl.MaxAsks+1)
	epochs := map[string]int{"below 0": -1, "above MaxEpoch": impl.MaxEpoch + 1, "least": math.MinInt, "greatest": math.MaxInt}
	useds := map[string]int{"below 0": -1, "above NoncesEach": impl.NoncesEach + 1, "least": math.MinInt, "greatest": math.MaxInt}
	fives := map[string][]impl.Ask{
		"two alike":                     {ak(2001, 1, 1, 1), ak(2001, 1, 1, 1)},
		"two nonces alike":              {ak(2001, 1, 1, 1), ak(2001, 2, 3, 2)},
		"two that fall":                 {ak(2002, 1, 1, 1), ak(2001, 1, 1, 1)},
		"two that fall at the end":      {ak(2000, 1, 1, 1), ak(2004, 1, 1, 1), ak(2003, 1, 1, 1)},
		"the last and the first alike":  {ak(2001, 1, 1, 1), ak(2002, 1, 1, 1), ak(2001, 1, 1, 1)},
		"a nonce of the epoch before":   {ak(1999, 1, 1, 1)},
		"a k of the epoch before":       {ak(1001, 1, 1, 1)},
		"the epoch before, then right":  {ak(1999, 1, 1, 1), ak(2001, 1, 1, 1)},
		"a nonce of the epoch behind":   {ak(3000, 1, 1, 1)},
		"right, then the epoch behind":  {ak(2001, 1, 1, 1), ak(3002, 1, 1, 1)},
		"a k that is Used":              {ak(2005, 1, 1, 1)},
		"a k above Used":                {ak(2006, 1, 1, 1)},
		"a nonce below 0":               {ak(-1, 1, 1, 1)},
		"a nonce above all":             {ak(impl.MaxNonce+1, 1, 1, 1)},
		"the least nonce":               {ak(math.MinInt, 1, 1, 1)},
		"the greatest nonce":            {ak(math.MaxInt, 1, 1, 1)},
		"a right one and the zero one":  {ak(2001, 1, 1, 1), {}},
		"the zero one and a right one":  {{}, ak(2001, 1, 1, 1)},
		"a k alone":                     {ak(1, 1, 1, 1)},
		"a nonce of the one below zero": {ak(-1999, 1, 1, 1)},
	}
	tables := map[string]impl.Table{
		"one ask above MaxAsks":    many,
		"far more than MaxAsks":    tableWith(2, 300),
		"MaxAsks + 1 zero asks":    tableOf(0, 1000, make([]impl.Ask, impl.MaxAsks+1)...),
		"an ask where Used is 0":   tableOf(0, 0, ak(0, 0, 0, 1)),
		"Used that would be 1000":  tableOf(2, impl.NoncesEach, ak(3000, 1, 1, 1)),
		"a nonce of epoch -1":      tableOf(0, 1000, ak(-1, 1, 1, 1)),
		"epoch -1 and its nonce":   tableOf(-1, 1000, ak(-999, 1, 1, 1)),
		"too great with its nonce": tableOf(impl.MaxEpoch+1, 1000, ak(impl.MaxNonce+1, 1, 1, 1)),
	}
	for name, epoch := range epochs {
		tables["an epoch "+name] = tableOf(epoch, 0)
		tables["with asks, an epoch "+name] = tableOf(epoch, 5, ak(2001, 1, 1, 1))
	}
	for name, used := range useds {
		tables["Used "+name] = tableOf(2, used)
		tables["with asks, Used "+name] = tableOf(2, used, ak(2001, 1, 1, 1))
	}
	for name, asks := range fives {
		tables[name] = tableOf(2, 5, asks...)
	}
	_, wrong := edgeAsks()
	for i, a := range wrong {
		tables["a wrong ask "+string(rune('a'+i))] = tableOf(2, 5, a)
	}
	return tables
}

func TestTableOkAtItsLimits(t *testing.T) {
	all := tableWith(2, impl.MaxAsks)
	all.Used = 46
	right := []impl.Table{
		{},
		{Asks: []impl.Ask{}},
		tableOf(0, 1),
		tableOf(0, impl.NoncesEach),
		tableOf(impl.MaxEpoch, 0),
		tableOf(impl.MaxEpoch, impl.NoncesEach),
		tableOf(0, 1, ak(0, 0, 0, 1)),
		tableOf(0, impl.NoncesEach, ak(0, 1, 1, 1), ak(999, 1, 1, 1)),
		tableOf(impl.MaxEpoch, impl.NoncesEach, ak(100000000, 1, 1, 1), ak(impl.MaxNonce, 1, 1, 1)),
		tableOf(2, 5, ak(2000, 1, 1, 1)),
		tableOf(2, 5, ak(2004, 1, 1, 1)),
		tableOf(2, 5, ak(2001, 1, 1, 1), ak(2002, 1, 1, 1)),
		tableWith(0, impl.MaxAsks),
		tableWith(2, impl.MaxAsks-1),
		tableWith(2, impl.MaxAsks),
		tableWith(impl.MaxEpoch, impl.MaxAsks),
		all,
	}
	for _, tab := range right {
		if !impl.TableOk(tab) || !wantTableOk(tab) {
			t.Errorf("%v is not TableOk", tab)
		}
	}
	for name, tab := range wrongTables() {
		if impl.TableOk(tab) || wantTableOk(tab) {
			t.Errorf("%s: it is TableOk", name)
		}
	}
	all.Used = 45
	if impl.TableOk(all) {
		t.Error("the last ask's k is Used, and the table is TableOk")
	}
}

// A table of two right asks, and of one more at that place, with nonces that ascend.
func tableAround(a impl.Ask, place int) impl.Table {
	row := slices.Insert([]impl.Ask{ak(0, 1, 8, 2), ak(0, 5, 6, 1)}, place, a)
	for i := range row {
		row[i].Nonce = 2000 + 2*i
	}
	return tableOf(2, 5, row...)
}

// An ask at its limits, and one beyond, is told at every place of a table among asks that are right.
func TestTableOkOfEachAsk(t *testing.T) {
	right, wrong := edgeAsks()
	for place := range 3 {
		for _, a := range right {
			if tab := tableAround(a, place); !impl.TableOk(tab) || !wantTableOk(tab) {
				t.Errorf("%v is not TableOk", tab)
			}
		}
		for _, a := range wrong {
			if tab := tableAround(a, place); impl.TableOk(tab) || wantTableOk(tab) {
				t.Errorf("%v is TableOk", tab)
			}
		}
	}
}

func TestTableOkOfNoncesAtAnyTwoPlaces(t *testing.T) {
	for i := range impl.MaxAsks {
		for j := range impl.MaxAsks {
			tab := tableWith(7, impl.MaxAsks)
			tab.Asks[i].Nonce, tab.Asks[j].Nonce = tab.Asks[j].Nonce, tab.Asks[i].Nonce
			if impl.TableOk(tab) != (i == j) {
				t.Fatalf("the nonces at %d and %d are swapped", i, j)
			}
			tab = tableWith(7, impl.MaxAsks)
			tab.Asks[i].Nonce = tab.Asks[j].Nonce
			if impl.TableOk(tab) != (i == j) {
				t.Fatalf("the nonces at %d and %d are alike", i, j)
			}
		}
	}
}

// What is asked wrong: To and at, one beyond each end and at the ends of int.
func wrongAskings() [][2]int {
	return [][2]int{
		{-1, 10}, {impl.MaxNodes, 10}, {math.MinInt, 10}, {math.MaxInt, 10},
		{3, -1}, {3, far + 1}, {3, math.MinInt}, {3, math.MaxInt},
		{-1, -1}, {impl.MaxNodes, far + 1}, {math.MinInt, math.MinInt}, {math.MaxInt, math.MaxInt},
	}
}

func TestIssueAtItsLimits(t *testing.T) {
	for _, tab := range []impl.Table{{}, tableOf(0, 4), tableWith(2, 1), tableWith(5, 7), tableWith(impl.MaxEpoch, impl.MaxAsks-1), tableOf(9, impl.NoncesEach-1)} {
		nonce := tab.Epoch*impl.NoncesEach + tab.Used
		for _, right := range [][2]int{{0, 0}, {impl.MaxNodes - 1, 0}, {0, far}, {impl.MaxNodes - 1, far}, {3, 10}} {
			asks := append(slices.Clone(tab.Asks), ak(nonce, right[0], right[1], 1))
			checkIssue(t, tab, right[0], right[1], issueAnswer{tableOf(tab.Epoch, tab.Used+1, asks...), nonce, impl.AskDone})
		}
		for _, wrong := range wrongAskings() {
			checkIssue(t, tab, wrong[0], wrong[1], issueAnswer{code: impl.AskBad})
		}
	}
}

func TestIssueToTheLastNonce(t *testing.T) {
	tab := tableOf(impl.MaxEpoch, impl.NoncesEach-1, ak(100000005, 2, 3, 4))
	last := tableOf(impl.MaxEpoch, impl.NoncesEach, ak(100000005, 2, 3, 4), ak(impl.MaxNonce, 6, 9, 1))
	checkIssue(t, tab, 6, 9, issueAnswer{last, impl.MaxNonce, impl.AskDone})
	checkIssue(t, last, 6, 9, issueAnswer{last, 0, impl.AskSpent})
	checkIssue(t, tableOf(0, impl.NoncesEach), 6, 9, issueAnswer{tableOf(0, impl.NoncesEach), 0, impl.AskSpent})
}

func TestIssueToTheLastAsk(t *testing.T) {
	tab := impl.Table{Epoch: 4}
	var asks []impl.Ask
	for i := range impl.MaxAsks {
		a := ak(4000+i, i%impl.MaxNodes, 10*i, 1)
		asks = append(asks, a)
		more, nonce, code := impl.Issue(tab, a.To, a.At)
		if !sameTable(more, tableOf(4, i+1, asks...)) || nonce != a.Nonce || code != impl.AskDone {
			t.Fatalf("ask %d: %v, %d, %d", i, more, nonce, code)
		}
		tab = more
	}
	checkIssue(t, tab, 1, 1, issueAnswer{tab, 0, impl.AskFull})
	// One goes, so that one may come; it takes the next nonce, not the one that is gone.
	used, _, _ := impl.Use(tab, 4003, 3)
	asks = append(slices.Delete(slices.Clone(asks), 3, 4), ak(4016, 1, 1, 1))
	checkIssue(t, used, 1, 1, issueAnswer{tableOf(4, 17, asks...), 4016, impl.AskDone})
}

// AskBad ahead of AskSpent and AskFull, AskSpent ahead of AskFull.
func TestIssueTellsTheFirstCodeThatApplies(t *testing.T) {
	both := tableWith(2, impl.MaxAsks)
	both.Used = impl.NoncesEach
	spent := tableWith(2, impl.MaxAsks-1)
	spent.Used = impl.NoncesEach
	cases := []struct {
		tab  impl.Table
		code int
	}{
		{both, impl.AskSpent},
		{spent, impl.AskSpent},
		{tableOf(2, impl.NoncesEach), impl.AskSpent},
		{tableWith(2, impl.MaxAsks), impl.AskFull},
	}
	for _, c := range cases {
		checkIssue(t, c.tab, 3, 10, issueAnswer{c.tab, 0, c.code})
		for _, wrong := range wrongAskings() {
			checkIssue(t, c.tab, wrong[0], wrong[1], issueAnswer{code: impl.AskBad})
		}
	}
	over := tableWith(2, impl.MaxAsks+1)
	over.Used = impl.NoncesEach
	checkIssue(t, over, 3, 10, issueAnswer{code: impl.AskBad})
	wrong := tableWith(2, impl.MaxAsks)
	wrong.Asks[7].To = impl.MaxNodes
	checkIssue(t, wrong, 3, 10, issueAnswer{code: impl.AskBad})
}

func TestUseOfThree(t *testing.T) {
	a, b, c := ak(2000, 0, 7, 1), ak(2003, 5, 7, 4), ak(2004, impl.MaxNodes-1, 9, 2)
	tab := tableOf(2, 6, a, b, c)
	lefts := [][]impl.Ask{{b, c}, {a, c}, {a, b}}
	for i, ask := range tab.Asks {
		left := tableOf(2, 6, lefts[i]...)
		checkUse(t, tab, ask.Nonce, ask.To, useAnswer{left, ask, impl.AskDone})
		// A second time there is none, from whomever it comes.
		for _, from := range []int{ask.To, 3} {
			checkUse(t, left, ask.Nonce, from, useAnswer{left, impl.Ask{}, impl.AskNone})
		}
		for _, from := range []int{math.MinInt, -1, 3, ask.To - 1, ask.To + 1, impl.MaxNodes, math.MaxInt} {
			checkUse(t, tab, ask.Nonce, from, useAnswer{tab, impl.Ask{}, impl.AskOther})
		}
	}
	for _, nonce := range []int{math.MinInt, -1, 0, 3, 1000, 1999, 2001, 2002, 2005, 2006, 3000, 3003, impl.MaxNonce, impl.MaxNonce + 1, math.MaxInt} {
		for _, from := range []int{math.MinInt, -1, 0, 5, impl.MaxNodes - 1, impl.MaxNodes, math.MaxInt} {
			checkUse(t, tab, nonce, from, useAnswer{tab, impl.Ask{}, impl.AskNone})
		}
	}
	checkUse(t, impl.Table{}, 0, 0, useAnswer{impl.Table{}, impl.Ask{}, impl.AskNone})
	checkUse(t, tableOf(0, 1, ak(0, 0, 0, 1)), 0, 0, useAnswer{tableOf(0, 1), ak(0, 0, 0, 1), impl.AskDone})
	checkUse(t, tableOf(2, 6, a), 2000, 0, useAnswer{tableOf(2, 6), a, impl.AskDone})
}

// Just patience is borne, one above it is not; what is yet to come is not either, whatever the patience.
func TestExpireAtItsLimits(t *testing.T) {
	a, b, c, d := ak(3000, 1, 100, 1), ak(3002, 2, 92, 4), ak(3003, 1, 91, 2), ak(3005, 0, 200, 1)
	tab := tableOf(3, 8, a, b, c, d)
	kept := func(asks ...impl.Ask) impl.Table { return tableOf(3, 8, asks...) }
	cases := []struct {
		at, patience int
		want         expireAnswer
	}{
		{100, 8, expireAnswer{kept(a, b, d), []impl.Ask{c}}},
		{100, 9, expireAnswer{kept(a, b, c, d), nil}},
		{100, 7, expireAnswer{kept(a, d), []impl.Ask{b, c}}},
		{100, 0, expireAnswer{kept(a, d), []impl.Ask{b, c}}},
		{101, 0, expireAnswer{kept(d), []impl.Ask{a, b, c}}},
		{101, 1, expireAnswer{kept(a, d), []impl.Ask{b, c}}},
		{91, 0, expireAnswer{kept(a, b, c, d), nil}},
		{92, 0, expireAnswer{kept(a, b, d), []impl.Ask{c}}},
		{200, 0, expireAnswer{kept(d), []impl.Ask{a, b, c}}},
		{201, 0, expireAnswer{kept(), []impl.Ask{a, b, c, d}}},
		{0, 0, expireAnswer{kept(a, b, c, d), nil}},
		{0, far, expireAnswer{kept(a, b, c, d), nil}},
		{far, far, expireAnswer{kept(a, b, c, d), nil}},
		{far, 0, expireAnswer{kept(), []impl.Ask{a, b, c, d}}},
		{far, far - 91, expireAnswer{kept(a, b, c, d), nil}},
		{far, far - 92, expireAnswer{kept(a, b, d), []impl.Ask{c}}},
		{far, far - 200, expireAnswer{kept(d), []impl.Ask{a, b, c}}},
	}
	for _, k := range cases {
		checkExpire(t, tab, k.at, k.patience, k.want)
	}
	first, last := ak(0, 1, 0, 1), ak(1, 1, far, 1)
	ends := tableOf(0, 2, first, last)
	checkExpire(t, ends, far, far, expireAnswer{ends, nil})
	checkExpire(t, ends, far, far-1, expireAnswer{tableOf(0, 2, last), []impl.Ask{first}})
	checkExpire(t, ends, 0, 0, expireAnswer{ends, nil})
	checkExpire(t, ends, 1, 0, expireAnswer{tableOf(0, 2, last), []impl.Ask{first}})
	checkExpire(t, tableOf(4, 9), 5, 5, expireAnswer{tableOf(4, 9), nil})
}

// An at or a patience that is no count is refused, with an ask in the table and with none.
func TestExpireAndAgainOfWrongCounts(t *testing.T) {
	for _, tab := range []impl.Table{tableOf(3, 2), tableOf(3, 2, ak(3000, 1, 0, 1)), tableWith(3, impl.MaxAsks)} {
		for _, wrong := range []int{-1, far + 1, math.MinInt, math.MaxInt} {
			for _, other := range []int{0, 50, far, -1, far + 1, math.MinInt, math.MaxInt} {
				checkExpire(t, tab, wrong, other, expireAnswer{})
				checkExpire(t, tab, other, wrong, expireAnswer{})
				checkAgain(t, tab, wrong, other, againAnswer{})
				checkAgain(t, tab, other, wrong, againAnswer{})
			}
		}
	}
}

// A new try takes the next nonces in the order in which the asks went, behind those that stay.
func TestAgainTakesTheNextNonces(t *testing.T) {
	a, b, c, d := ak(3000, 1, 90, 1), ak(3002, 2, 99, 2), ak(3003, 7, 80, 3), ak(3005, 0, 10, 1)
	tab := tableOf(3, 8, a, b, c, d)
	cases := []struct {
		at, patience int
		want         againAnswer
	}{
		{100, 9, againAnswer{
			tableOf(3, 11, b, ak(3008, 1, 100, 2), ak(3009, 7, 100, 4), ak(3010, 0, 100, 2)),
			[]impl.Ask{ak(3008, 1, 100, 2), ak(3009, 7, 100, 4), ak(3010, 0, 100, 2)}, nil}},
		{100, 10, againAnswer{
			tableOf(3, 10, a, b, ak(3008, 7, 100, 4), ak(3009, 0, 100, 2)),
			[]impl.Ask{ak(3008, 7, 100, 4), ak(3009, 0, 100, 2)}, nil}},
		{100, 20, againAnswer{tableOf(3, 9, a, b, c, ak(3008, 0, 100, 2)), []impl.Ask{ak(3008, 0, 100, 2)}, nil}},
		{100, 89, againAnswer{tableOf(3, 9, a, b, c, ak(3008, 0, 100, 2)), []impl.Ask{ak(3008, 0, 100, 2)}, nil}},
		{100, 90, againAnswer{tab, nil, nil}},
		{10, 0, againAnswer{tab, nil, nil}},
		{11, 0, againAnswer{tableOf(3, 9, a, b, c, ak(3008, 0, 11, 2)), []impl.Ask{ak(3008, 0, 11, 2)}, nil}},
		{0, 0, againAnswer{tab, nil, nil}},
		{far, far, againAnswer{tab, nil, nil}},
		{far, far - 10, againAnswer{tab, nil, nil}},
		{far, far - 11, againAnswer{tableOf(3, 9, a, b, c, ak(3008, 0, far, 2)), []impl.Ask{ak(3008, 0, far, 2)}, nil}},
	}
	for _, k := range cases {
		checkAgain(t, tab, k.at, k.patience, k.want)
	}
	checkAgain(t, tableOf(4, 9), 5, 5, againAnswer{table: tableOf(4, 9)})
	checkAgain(t, impl.Table{}, 0, 0, againAnswer{})
}

// At MaxTries none comes, one below it one does; who goes without one leaves no nonce out.
func TestAgainAtMaxTries(t *testing.T) {
	for tries := 1; tries <= impl.MaxTries; tries++ {
		a := ak(5, 6, 30, tries)
		want := againAnswer{tableOf(0, 7, ak(6, 6, 40, tries+1)), []impl.Ask{ak(6, 6, 40, tries+1)}, nil}
		if tries == impl.MaxTries {
			want = againAnswer{tableOf(0, 6), nil, []impl.Ask{a}}
		}
		checkAgain(t, tableOf(0, 6, a), 40, 9, want)
	}
	a, b, c, d := ak(3000, 1, 0, 4), ak(3001, 2, 0, 3), ak(3002, 3, 0, 4), ak(3003, 4, 0, 1)
	checkAgain(t, tableOf(3, 4, a, b, c, d), 9, 8, againAnswer{
		tableOf(3, 6, ak(3004, 2, 9, 4), ak(3005, 4, 9, 2)),
		[]impl.Ask{ak(3004, 2, 9, 4), ak(3005, 4, 9, 2)},
		[]impl.Ask{a, c},
	})
}

// Used comes to NoncesEach in the middle of the asks that go: those behind go without one.
func TestAgainAtTheLastNonces(t *testing.T) {
	a, b, c, d, e := ak(9001, 1, 0, 1), ak(9002, 2, 0, 4), ak(9003, 3, 50, 2), ak(9004, 4, 0, 3), ak(9005, 5, 0, 2)
	first, second, third := ak(9997, 1, 40, 2), ak(9998, 4, 40, 4), ak(9999, 5, 40, 3)
	moved := func(a impl.Ask) impl.Ask { a.Nonce++; return a }
	cases := []struct {
		used int
		want againAnswer
	}{
		{impl.NoncesEach, againAnswer{tableOf(9, 1000, c), nil, []impl.Ask{a, b, d, e}}},
		{999, againAnswer{tableOf(9, 1000, c, moved(moved(first))), []impl.Ask{moved(moved(first))}, []impl.Ask{b, d, e}}},
		{998, againAnswer{tableOf(9, 1000, c, moved(first), moved(second)), []impl.Ask{moved(first), moved(second)}, []impl.Ask{b, e}}},
		{997, againAnswer{tableOf(9, 1000, c, first, second, third), []impl.Ask{first, second, third}, []impl.Ask{b}}},
	}
	for _, k := range cases {
		checkAgain(t, tableOf(9, k.used, a, b, c, d, e), 40, 30, k.want)
	}
	// Of MaxAsks that all go, each has one to come while nonces are left.
	full := tableWith(1, impl.MaxAsks)
	full.Used = impl.NoncesEach - 5
	checkAgain(t, full, 1000, 0, wantAgain(full, 1000, 0))
	if _, came, left := impl.Again(full, 1000, 0); len(came) != 5 || len(left) != impl.MaxAsks-5 {
		t.Errorf("%d came, %d left", len(came), len(left))
	}
}

func TestRebootAtItsLimits(t *testing.T) {
	bad := rebootAnswer{code: impl.AskBad}
	done := func(epoch int) rebootAnswer { return rebootAnswer{tableOf(epoch, 0), impl.AskDone} }
	cases := []struct {
		tab   impl.Table
		epoch int
		want  rebootAnswer
	}{
		{impl.Table{}, 1, done(1)},
		{impl.Table{}, 0, bad},
		{impl.Table{}, -1, bad},
		{impl.Table{}, 2, done(2)},
		{impl.Table{}, impl.MaxEpoch, done(impl.MaxEpoch)},
		{impl.Table{}, impl.MaxEpoch + 1, bad},
		{impl.Table{}, math.MinInt, bad},
		{impl.Table{}, math.MaxInt, bad},
		{tableWith(5, 7), 5, bad},
		{tableWith(5, 7), 4, bad},
		{tableWith(5, 7), 0, bad},
		{tableWith(5, 7), 6, done(6)},
		{tableWith(5, 7), 7, done(7)},
		{tableWith(5, 7), impl.MaxEpoch, done(impl.MaxEpoch)},
		{tableWith(5, impl.MaxAsks), 6, done(6)},
		{tableOf(5, impl.NoncesEach), 6, done(6)},
		{tableWith(impl.MaxEpoch-1, 2), impl.MaxEpoch, done(impl.MaxEpoch)},
		{tableWith(impl.MaxEpoch-1, 2), impl.MaxEpoch - 1, bad},
		{tableWith(impl.MaxEpoch-1, 2), impl.MaxEpoch + 1, bad},
		{tableWith(impl.MaxEpoch, 2), impl.MaxEpoch, bad},
		{tableWith(impl.MaxEpoch, 2), impl.MaxEpoch + 1, bad},
		{tableWith(impl.MaxEpoch, 2), math.MaxInt, bad},
		{tableWith(impl.MaxEpoch, 2), math.MinInt, bad},
	}
	for _, c := range cases {
		checkReboot(t, c.tab, c.epoch, c.want)
	}
}

func TestWaitsOfNodes(t *testing.T) {
	tab := tableOf(2, 9, ak(2000, 0, 1, 1), ak(2001, 7, 1, 1), ak(2004, 3, 1, 1), ak(2005, 7, 2, 4), ak(2008, 7, 1, 1))
	want := map[int]int{0: 1, 7: 3, 3: 1, 1: 0, -1: 0, impl.MaxNodes: 0, math.MinInt: 0, math.MaxInt: 0}
	for to, waits := range want {
		if got := impl.Waits(tab, to); got != waits {
			t.Errorf("Waits(%d) is %d", to, got)
		}
		if got := impl.Waits(tableOf(2, 9), to); got != 0 {
			t.Errorf("Waits of no ask is %d", got)
		}
	}
	var all []impl.Ask
	for i := range impl.MaxAsks {
		all = append(all, ak(i, 4, 0, 1))
	}
	if got := impl.Waits(tableOf(0, 16, all...), 4); got != impl.MaxAsks {
		t.Errorf("Waits of all is %d", got)
	}
}

// A table that is none is told ahead of all else, with zero values beside the code.
func TestWrongTablesAreRefused(t *testing.T) {
	for name, tab := range wrongTables() {
		if impl.TableOk(tab) {
			t.Errorf("%s: it is TableOk", name)
		}
		for _, to := range []int{math.MinInt, -1, 0, 1, impl.MaxNodes, math.MaxInt} {
			for _, at := range []int{math.MinInt, -1, 0, 2, far, far + 1, math.MaxInt} {
				checkIssue(t, tab, to, at, issueAnswer{code: impl.AskBad})
			}
			for _, nonce := range []int{math.MinInt, -1, 0, 1, 1999, 2001, 2002, math.MaxInt} {
				checkUse(t, tab, nonce, to, useAnswer{code: impl.AskBad})
			}
			for _, a := range tab.Asks {
				checkUse(t, tab, a.Nonce, a.To, useAnswer{code: impl.AskBad})
			}
			if got := impl.Waits(tab, to); got != 0 {
				t.Errorf("%s: Waits(%d) is %d", name, to, got)
			}
		}
		for _, at := range []int{math.MinInt, -1, 0, 2, far, far + 1, math.MaxInt} {
			for _, patience := range []int{math.MinInt, -1, 0, far, math.MaxInt} {
				checkExpire(t, tab, at, patience, expireAnswer{})
				checkAgain(t, tab, at, patience, againAnswer{})
			}
		}
		for _, epoch := range []int{math.MinInt, -1, 0, 1, 3, impl.MaxEpoch, math.MaxInt} {
			checkReboot(t, tab, epoch, rebootAnswer{code: impl.AskBad})
		}
	}
}

func checkNonceFunctions(t *testing.T, tab impl.Table, ats []int) {
	t.Helper()
	if impl.TableOk(tab) != wantTableOk(tab) {
		t.Fatalf("TableOk(%v) is %v", tab, !wantTableOk(tab))
	}
	for _, to := range []int{math.MinInt, -1, 0, 1, 4, 7, 8, math.MaxInt} {
		if got := impl.Waits(tab, to); got != wantWaits(tab, to) {
			t.Fatalf("Waits(%v, %d) is %d", tab, to, got)
		}
		for _, at := range ats {
			checkIssue(t, tab, to, at, wantIssue(tab, to, at))
		}
		for _, nonce := range []int{math.MinInt, -1, 0, 1, 999, 1000, 1001, 1002, 1003, 2000, math.MaxInt} {
			checkUse(t, tab, nonce, to, wantUse(tab, nonce, to))
		}
		for _, a := range tab.Asks {
			checkUse(t, tab, a.Nonce, to, wantUse(tab, a.Nonce, to))
			checkUse(t, tab, a.Nonce, a.To, wantUse(tab, a.Nonce, a.To))
		}
	}
	for _, at := range ats {
		for _, patience := range ats {
			checkExpire(t, tab, at, patience, wantExpire(tab, at, patience))
			checkAgain(t, tab, at, patience, wantAgain(tab, at, patience))
		}
	}
	for _, epoch := range []int{math.MinInt, -1, 0, 1, 2, impl.MaxEpoch, impl.MaxEpoch + 1, math.MaxInt} {
		checkReboot(t, tab, epoch, wantReboot(tab, epoch))
	}
}

// Every function at every table of up to three asks out of a few, right and wrong mixed.
func TestTablesAgainstTheModel(t *testing.T) {
	asks := []impl.Ask{
		ak(1000, 0, 3, 1), ak(1001, 1, 0, 4), ak(1002, 7, far, 2), ak(1002, 1, 4, 3),
		ak(999, 1, 3, 1), ak(1001, 8, 3, 1), ak(1001, 1, 3, 5), ak(2000, 1, -1, 1),
	}
	kinds := len(asks)
	ats := []int{-1, 0, 3, 4, 5, far}
	for code := range kinds * kinds * kinds {
		list := []impl.Ask{asks[code%kinds], asks[code/kinds%kinds], asks[code/kinds/kinds]}
		for _, used := range []int{-1, 0, 2, 3, impl.NoncesEach - 1, impl.NoncesEach, impl.NoncesEach + 1} {
			checkNonceFunctions(t, tableOf(1, used, list...), ats)
			if code < kinds*kinds {
				checkNonceFunctions(t, tableOf(1, used, list[:2]...), ats)
			}
			if code < kinds {
				checkNonceFunctions(t, tableOf(1, used, list[:1]...), ats)
				checkNonceFunctions(t, tableOf(code-2, used), ats)
			}
		}
	}
}

func TestTablesOfAnyLengthAgainstTheModel(t *testing.T) {
	ats := []int{-1, 0, 99, 100, 101, 150, 177, 178, 1000, far, far + 1}
	for asks := range impl.MaxAsks + 3 {
		for _, epoch := range []int{-1, 0, 1, 2, impl.MaxEpoch, impl.MaxEpoch + 1} {
			tab := tableWith(epoch, asks)
			right := asks <= impl.MaxAsks && epoch >= 0 && epoch <= impl.MaxEpoch
			if impl.TableOk(tab) != right {
				t.Fatalf("%d asks of epoch %d", asks, epoch)
			}
			for _, used := range []int{3 * asks, 3*asks - 2, 3*asks - 3, impl.NoncesEach - 3, impl.NoncesEach} {
				tab.Used = used
				checkNonceFunctions(t, tab, ats)
			}
		}
	}
}
