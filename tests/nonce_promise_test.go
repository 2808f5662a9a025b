package tests

import (
	"slices"
	"testing"

	"loop.example/g00072/impl"
)

// What is told of the asks of one table along a long walk, the next step of which hangs on a number that is turned each time.
type asking struct {
	t       *testing.T
	tab     impl.Table
	now     int
	told    map[int]impl.Ask
	waiting map[int]impl.Ask
	last    int
	state   uint32
	done    map[string]int
}

func askingFrom(t *testing.T, tab impl.Table, state int) *asking {
	last := tab.Epoch*impl.NoncesEach + tab.Used - 1
	return &asking{t: t, tab: tab, told: map[int]impl.Ask{}, waiting: map[int]impl.Ask{}, last: last, state: uint32(state), done: map[string]int{}}
}

func (w *asking) number(below int) int {
	w.state = w.state*1664525 + 1013904223
	return int(w.state>>8) % below
}

// P7: a nonce that is told is above all that were told before, so that it is none of them.
func (w *asking) tell(a impl.Ask) {
	if _, twice := w.told[a.Nonce]; twice || a.Nonce <= w.last {
		w.t.Fatalf("%v is told behind %d", a, w.last)
	}
	w.last = a.Nonce
	w.told[a.Nonce] = a
	w.waiting[a.Nonce] = a
}

func (w *asking) leave(a impl.Ask) {
	if was, ok := w.waiting[a.Nonce]; !ok || was != a {
		w.t.Fatalf("%v goes, and was not waited for", a)
	}
	delete(w.waiting, a.Nonce)
}

func (w *asking) issue() {
	to := w.number(impl.MaxNodes+1) - w.number(2)
	next, nonce, code := impl.Issue(w.tab, to, w.now)
	switch code {
	case impl.AskDone:
		w.done["issued"]++
		w.tell(ak(nonce, to, w.now, 1))
		w.tab = next
	case impl.AskBad:
		w.done["issued bad"]++
		w.same(next, impl.Table{})
		if to >= 0 && to < impl.MaxNodes {
			w.t.Fatalf("Issue(%v, %d, %d) is AskBad", w.tab, to, w.now)
		}
	case impl.AskSpent, impl.AskFull:
		w.done["not issued"]++
		w.same(next, w.tab)
	}
	if code != impl.AskDone && nonce != 0 {
		w.t.Fatalf("the nonce %d beside %d", nonce, code)
	}
}

// Some nonce that was told at any time, or one that was not.
func (w *asking) some() int {
	if w.number(3) == 0 || w.last < 1 {
		return w.number(impl.MaxNonce+10) - 5
	}
	return w.last - w.number(min(w.last, 40))
}

// P7: what is used was waited for, and was asked of the one from whom the answer comes.
func (w *asking) use() {
	nonce, from := w.some(), w.number(impl.MaxNodes)
	if a, ok := w.told[nonce]; ok && w.number(3) > 0 {
		from = a.To
	}
	asked, waits := w.waiting[nonce]
	next, a, code := impl.Use(w.tab, nonce, from)
	want := impl.AskDone
	switch {
	case !waits:
		want = impl.AskNone
		w.done["used none"]++
	case asked.To != from:
		want = impl.AskOther
		w.done["used other"]++
	}
	if code != want {
		w.t.Fatalf("Use(%v, %d, %d) is %d", w.tab, nonce, from, code)
	}
	if code != impl.AskDone {
		w.same(next, w.tab)
		if a != (impl.Ask{}) {
			w.t.Fatalf("%v beside %d", a, code)
		}
		return
	}
	w.done["used"]++
	w.leave(a)
	w.tab = next
	for from := range impl.MaxNodes {
		if _, _, code := impl.Use(next, nonce, from); code != impl.AskNone {
			w.t.Fatalf("%d is used twice: %d", nonce, code)
		}
	}
}

func (w *asking) expire() {
	patience := w.number(60)
	next, gone := impl.ExpireAsks(w.tab, w.now, patience)
	for _, a := range gone {
		w.leave(a)
		w.done["expired"]++
	}
	w.patient(patience)
	w.tab = next
}

func (w *asking) again() {
	patience := w.number(60)
	before := w.tab
	next, came, left := impl.Again(before, w.now, patience)
	for _, a := range left {
		w.leave(a)
		w.done["left"]++
		if a.Tries != impl.MaxTries && next.Used != impl.NoncesEach {
			w.t.Fatalf("%v goes without one coming", a)
		}
	}
	for _, a := range before.Asks {
		if w.now-a.At <= patience || slices.Contains(left, a) {
			continue
		}
		w.leave(a)
		if len(came) == 0 || came[0].To != a.To || came[0].At != w.now || came[0].Tries != a.Tries+1 {
			w.t.Fatalf("behind %v: %v", a, came)
		}
		w.tell(came[0])
		came = came[1:]
		w.done["came"]++
	}
	if len(came) != 0 {
		w.t.Fatalf("of none came %v", came)
	}
	w.patient(patience)
	w.tab = next
}

func (w *asking) patient(patience int) {
	for _, a := range w.waiting {
		if w.now-a.At > patience {
			w.t.Fatalf("%v still waits at %d", a, w.now)
		}
	}
}

func (w *asking) reboot() {
	epoch := w.tab.Epoch + w.number(4) - 1
	next, code := impl.Reboot(w.tab, epoch)
	if (code == impl.AskDone) != (epoch > w.tab.Epoch && epoch <= impl.MaxEpoch) {
		w.t.Fatalf("Reboot(%v, %d) is %d", w.tab, epoch, code)
	}
	if code != impl.AskDone {
		w.done["not rebooted"]++
		w.same(next, impl.Table{})
		return
	}
	w.done["rebooted"]++
	clear(w.waiting)
	w.tab = next
}

func (w *asking) same(got, want impl.Table) {
	if !sameTable(got, want) {
		w.t.Fatalf("got %v, want %v", got, want)
	}
}

func (w *asking) step() {
	before := w.tab
	kept := tableOf(before.Epoch, before.Used, slices.Clone(before.Asks)...)
	switch kind := w.number(100); {
	case kind < 50:
		w.issue()
	case kind < 75:
		w.use()
	case kind < 80:
		w.expire()
	case kind < 99:
		w.again()
	default:
		w.reboot()
	}
	w.now += w.number(8)
	w.same(before, kept)
	w.look(kept)
}

// At each step the table has just what is waited for, and what it has used never falls.
func (w *asking) look(before impl.Table) {
	fell := w.tab.Epoch < before.Epoch || w.tab.Epoch == before.Epoch && w.tab.Used < before.Used
	if !impl.TableOk(w.tab) || fell || len(w.tab.Asks) != len(w.waiting) {
		w.t.Fatalf("%v came of %v, and waited for is %v", w.tab, before, w.waiting)
	}
	for _, a := range w.tab.Asks {
		if w.waiting[a.Nonce] != a {
			w.t.Fatalf("%v waits, and was not asked", a)
		}
	}
	for node := range impl.MaxNodes {
		waits := 0
		for _, a := range w.waiting {
			if a.To == node {
				waits++
			}
		}
		if got := impl.Waits(w.tab, node); got != waits {
			w.t.Fatalf("Waits(%v, %d) is %d", w.tab, node, got)
		}
	}
}

func TestNoNonceIsToldTwice(t *testing.T) {
	done := map[string]int{}
	starts := []impl.Table{{}, tableOf(7, 0), tableOf(7, 970), tableOf(99990, 5), tableOf(impl.MaxEpoch-1, 600), tableOf(impl.MaxEpoch, 900)}
	for _, start := range starts {
		for state := range 12 {
			w := askingFrom(t, start, state)
			for range 800 {
				w.step()
			}
			for name, n := range w.done {
				done[name] += n
			}
		}
	}
	for _, name := range []string{"issued", "issued bad", "not issued", "used", "used none", "used other", "expired", "came", "left", "rebooted", "not rebooted"} {
		if done[name] < 50 {
			t.Errorf("%s: only %d times", name, done[name])
		}
	}
}

// All nonces of three epochs, each of them told once, with reboots between.
func TestEveryNonceOfAnEpochIsToldOnce(t *testing.T) {
	tab, want := impl.Table{}, 0
	for epoch := range 3 {
		for range impl.NoncesEach {
			next, nonce, code := impl.Issue(tab, want%impl.MaxNodes, want)
			if code != impl.AskDone || nonce != want {
				t.Fatalf("%d, %d instead of %d", nonce, code, want)
			}
			left, _, code := impl.Use(next, nonce, want%impl.MaxNodes)
			if code != impl.AskDone {
				t.Fatalf("%d can't be used: %d", nonce, code)
			}
			tab = left
			want++
		}
		checkIssue(t, tab, 1, 1, issueAnswer{tab, 0, impl.AskSpent})
		next, code := impl.Reboot(tab, epoch+1)
		if code != impl.AskDone {
			t.Fatal(code)
		}
		tab = next
	}
}

// An ask is tried MaxTries times and no more, each time under another nonce; the answer to an earlier try is used no more.
func TestAnAskIsTriedMaxTriesTimes(t *testing.T) {
	tab, nonce, _ := impl.Issue(tableOf(4, 10), 6, 0)
	for try := 2; try <= impl.MaxTries; try++ {
		next, came, left := impl.Again(tab, 10*try, 5)
		if len(came) != 1 || len(left) != 0 || came[0] != ak(nonce+1, 6, 10*try, try) {
			t.Fatalf("try %d: %v, %v", try, came, left)
		}
		checkUse(t, next, nonce, 6, useAnswer{next, impl.Ask{}, impl.AskNone})
		tab, nonce = next, came[0].Nonce
	}
	last := ak(4013, 6, 10*impl.MaxTries, impl.MaxTries)
	checkUse(t, tab, 4013, 6, useAnswer{tableOf(4, 14), last, impl.AskDone})
	checkAgain(t, tab, 1000, 5, againAnswer{tableOf(4, 14), nil, []impl.Ask{last}})
}

// Where nothing may be tried again, Again is ExpireAsks; else the asks that stay and those that go are the same.
func TestAgainIsExpiryButForWhatComes(t *testing.T) {
	for asks := range impl.MaxAsks + 1 {
		for _, used := range []int{3 * asks, 990, 999, impl.NoncesEach} {
			tab := tableWith(6, asks)
			tab.Used = used
			for at := 95; at < 190; at++ {
				for _, patience := range []int{0, 1, 7, 30} {
					without, gone := impl.ExpireAsks(tab, at, patience)
					again, came, left := impl.Again(tab, at, patience)
					stay := again.Asks[:len(again.Asks)-len(came)]
					if !slices.Equal(stay, without.Asks) || !slices.Equal(again.Asks[len(stay):], came) {
						t.Fatalf("%v at %d: %v stay, %v came", tab, at, stay, came)
					}
					if without.Used != used || again.Used != used+len(came) || len(gone) != len(came)+len(left) {
						t.Fatalf("%v at %d: %v went, %v came, %v left", tab, at, gone, came, left)
					}
				}
			}
		}
	}
}

// Each function that takes a table, at arguments with which it is done and with which it is refused; all the lists that it answers.
func nonceCalls() map[string]func(t impl.Table) [][]impl.Ask {
	issue := func(to, at int) func(t impl.Table) [][]impl.Ask {
		return func(t impl.Table) [][]impl.Ask { got, _, _ := impl.Issue(t, to, at); return [][]impl.Ask{got.Asks} }
	}
	use := func(place, more int) func(t impl.Table) [][]impl.Ask {
		return func(t impl.Table) [][]impl.Ask {
			a := t.Asks[place%len(t.Asks)]
			got, _, _ := impl.Use(t, a.Nonce, a.To+more)
			return [][]impl.Ask{got.Asks}
		}
	}
	expire := func(at, patience int) func(t impl.Table) [][]impl.Ask {
		return func(t impl.Table) [][]impl.Ask {
			got, gone := impl.ExpireAsks(t, at, patience)
			return [][]impl.Ask{got.Asks, gone}
		}
	}
	again := func(at, patience int) func(t impl.Table) [][]impl.Ask {
		return func(t impl.Table) [][]impl.Ask {
			got, came, left := impl.Again(t, at, patience)
			return [][]impl.Ask{got.Asks, came, left}
		}
	}
	return map[string]func(t impl.Table) [][]impl.Ask{
		"TableOk":    func(t impl.Table) [][]impl.Ask { impl.TableOk(t); return nil },
		"Issue":      issue(1, 2),
		"issue bad":  issue(-1, 2),
		"Use":        use(0, 0),
		"use second": use(1, 0),
		"use last":   use(impl.MaxAsks*2-1, 0),
		"use other":  use(0, 1),
		"use none":   func(t impl.Table) [][]impl.Ask { got, _, _ := impl.Use(t, -1, 0); return [][]impl.Ask{got.Asks} },
		"ExpireAsks": expire(200, 60),
		"expire all": expire(1000, 0),
		"none goes":  expire(0, 0),
		"expire bad": expire(-1, 0),
		"Again":      again(200, 60),
		"all again":  again(1000, 0),
		"no again":   again(0, 0),
		"again bad":  again(0, -1),
		"Reboot":     func(t impl.Table) [][]impl.Ask { got, _ := impl.Reboot(t, 9); return [][]impl.Ask{got.Asks} },
		"reboot bad": func(t impl.Table) [][]impl.Ask { got, _ := impl.Reboot(t, 2); return [][]impl.Ask{got.Asks} },
		"Waits":      func(t impl.Table) [][]impl.Ask { impl.Waits(t, 1); return nil },
	}
}

// All that a list can be written into, its spare room too.
func overwrite[T any](list []T, with T) {
	for i := range list[:cap(list)] {
		list[:cap(list)][i] = with
	}
}

// P23: a table is not written into, nor the spare room behind its list; what is answered shares no memory with it, nor do two lists of one answer or of two.
func TestNonceAnswersShareNothing(t *testing.T) {
	for name, call := range nonceCalls() {
		for _, asks := range []int{1, 2, 3, 8, impl.MaxAsks - 1, impl.MaxAsks} {
			room := append(tableWith(2, asks).Asks, ak(-7, -7, -7, -7), ak(-8, -8, -8, -8))
			kept := slices.Clone(room)
			for _, used := range []int{3 * asks, impl.NoncesEach - 2, impl.NoncesEach, -1} {
				tab := tableOf(2, used, room[:asks]...)
				answer, other := call(tab), call(tab)
				lists := slices.Concat(answer, other)
				for i, list := range lists {
					before := make([][]impl.Ask, len(lists))
					for j := range lists {
						before[j] = slices.Clone(lists[j])
					}
					overwrite(list, ak(-9, -9, -9, -9))
					for j := range lists {
						if j != i && !slices.Equal(lists[j], before[j]) {
							t.Fatalf("%s of %d asks: the list %d was written into by the list %d", name, asks, j, i)
						}
					}
				}
				if !slices.Equal(room, kept) {
					t.Fatalf("%s of %d asks: the table was written into: %v", name, asks, room)
				}
			}
		}
	}
}

// The spare room of one list of an answer is no part of another.
func TestNonceListsHaveTheirOwnRoom(t *testing.T) {
	tab := tableWith(2, impl.MaxAsks)
	tab.Used = impl.NoncesEach - 3
	want := wantAgain(tab, 1000, 0)
	for i := range 3 {
		got, came, left := impl.Again(tab, 1000, 0)
		lists := [][]impl.Ask{got.Asks, came, left}
		_ = append(lists[i], ak(-9, -9, -9, -9), ak(-8, -8, -8, -8))
		if !sameTable(got, want.table) || !slices.Equal(came, want.came) || !slices.Equal(left, want.left) {
			t.Fatalf("behind the list %d stands another: %v, %v, %v", i, got, came, left)
		}
	}
}

// What a call answers hangs on its arguments alone, and not on the order in which a map is gone through.
func TestNonceAnswersAreTheSameEachTime(t *testing.T) {
	tab := tableWith(2, impl.MaxAsks)
	tab.Used = impl.NoncesEach - 7
	want := wantAgain(tab, 1000, 0)
	gone := wantExpire(tab, 160, 30)
	for range 200 {
		checkAgain(t, tab, 1000, 0, want)
		checkExpire(t, tab, 160, 30, gone)
		checkIssue(t, tab, 1, 1, issueAnswer{tab, 0, impl.AskFull})
	}
}
