package tests

import (
	"math"
	"slices"
	"testing"

	"loop.example/g00072/impl"
)

// One node, what its oscillator counts, and what the others said to it last; each of them said true.
type listener struct {
	t     *testing.T
	name  string
	o     impl.Osc
	list  []impl.Peer
	heard map[int]impl.Local
	told  int
}

func (l *listener) goOn(by, want int) bool {
	next, ok := impl.OscStep(l.o, impl.Stride{By: by, Want: want})
	if ok {
		l.o = next
	}
	return ok
}

// What is said has true time at one of its ends, or between.
func (l *listener) hear(step int) {
	l.t.Helper()
	now, from := l.o.Time, step*3%impl.MaxNodes
	bound := []impl.Ival{iv(now, now), iv(now, now+9), iv(now-9, now), iv(now-4, now+5), iv(-far, now+3)}[step%5]
	list, code := impl.PeerPut(l.list, from, bound, l.o.Count)
	if code != impl.PeerDone || !impl.PeersOk(list) {
		l.t.Fatalf("%s: %v with %d, %v, %d: %v, %d", l.name, l.list, from, bound, l.o.Count, list, code)
	}
	l.list, l.heard[from] = list, loc(bound.Lo, bound.Hi, l.o.Count)
}

// P10: what is carried of those that were heard has true time; who is left out is too old, or runs over.
func (l *listener) look(life int) {
	l.t.Helper()
	bounds, ids := impl.PeersCarried(l.list, l.o.Drift, l.o.Count, life)
	if len(bounds) != len(ids) || !slices.IsSorted(ids) {
		l.t.Fatalf("%s: %v, %v", l.name, bounds, ids)
	}
	for i, a := range bounds {
		if !impl.Holds(a, l.o.Time) {
			l.t.Fatalf("%s by %v: %d carried to %v at the count %d, and true time is %d", l.name, l.o.Drift, ids[i], a, l.o.Count, l.o.Time)
		}
	}
	for id := range impl.MaxNodes {
		said, heard := l.heard[id]
		age := -1
		if heard {
			age = l.o.Count - said.At
		}
		checkAge(l.t, l.list, id, l.o.Count, age)
		_, code := impl.CarryOn(said, l.o.Drift, l.o.Count)
		if in := slices.Contains(ids, id); in != (heard && age <= life && code == impl.LocWell) {
			l.t.Fatalf("%s: %d said %v, %d ago of %d; that it is among %v is %v", l.name, id, said, age, life, ids, in)
		}
	}
	l.told += len(ids)
}

// P10: who said true is never suspect by an interval that has true time.
func (l *listener) markByTruth() {
	l.t.Helper()
	for _, a := range ivals(iv(l.o.Time, l.o.Time), iv(l.o.Time-3, l.o.Time), iv(l.o.Time, l.o.Time+3), iv(-far, far)) {
		if !impl.IvalOk(a) {
			continue
		}
		marked := impl.PeersMark(l.list, l.o.Drift, l.o.Count, far, a)
		if !slices.Equal(marked, l.list) || len(impl.PeersSure(marked)) != len(marked) {
			l.t.Fatalf("%s by %v at %v: by %v %v are %v", l.name, l.o.Drift, l.o, a, l.list, marked)
		}
	}
}

// P10: what is carried of sources that were right is right, for oscillators at the ends of their drift and between, by short strides and long ones.
func TestCarriedSourcesHaveTrueTime(t *testing.T) {
	strides := []int{1, 2, 3, 5, 1, 8, 13, 0, 40, 7, 1000, 1, 999999, 6}
	for name, tick := range ticks() {
		for _, d := range rightDrifts() {
			l := listener{t: t, name: name, o: osc(d, 50, 7), heard: map[int]impl.Local{}}
			for step := range 70 {
				by := strides[step%len(strides)]
				if !l.goOn(by, tick(step, by)) {
					t.Fatalf("%s by %v ended at %v", name, d, l.o)
				}
				if step%3 != 2 {
					l.hear(step)
				}
				for _, life := range []int{0, 1, 5, 60, 2000, far} {
					l.look(life)
				}
				l.markByTruth()
			}
			if l.told < 500 {
				t.Fatalf("%s by %v: only %d were carried", name, d, l.told)
			}
		}
	}
}

// P10, where counts and bounds end: what is carried there runs over, or is right.
func TestCarriedSourcesWhereCountsEnd(t *testing.T) {
	for name, tick := range ticks() {
		for _, d := range rightDrifts() {
			l := listener{t: t, name: name, o: osc(d, 0, 0), heard: map[int]impl.Local{}}
			l.hear(4)
			steps := 0
			for l.goOn(far/40, tick(steps, far/40)) {
				if steps%4 == 0 && l.o.Time+9 <= far {
					l.hear(steps)
				}
				l.look(far)
				l.look(far / 5)
				l.markByTruth()
				steps++
			}
			if steps < 10 || l.told < 30 {
				t.Fatalf("%s by %v: %d steps, %d carried, at %v", name, d, steps, l.told, l.o)
			}
		}
	}
}

// P10, of every stretch of a drift: from each time in a bound, what is carried has each later time at which such a count may be, and no other.
func TestCarriedSourcesHaveTrueTimeAndNoMore(t *testing.T) {
	for _, d := range smallDrifts(6) {
		stretches := stretchesOf(d, 24)
		list := peers(pe(1, 0, 0, 20), pe(3, -3, 2, 20), suspected(pe(4, 5, 9, 18)), pe(6, -8, -8, 15))
		for at := 20; at < 26; at++ {
			bounds, ids := impl.PeersCarried(list, d, at, 60)
			if impl.DriftOk(d) != (len(ids) == len(list)) {
				t.Fatalf("by %v at %d: %v, %v", d, at, bounds, ids)
			}
			for i := range ids {
				p := list[i]
				may := map[int]bool{}
				for _, s := range stretches {
					for from := p.Bound.Lo; s.count == at-p.At && from <= p.Bound.Hi; from++ {
						may[from+s.time] = true
					}
				}
				for time := -30; time <= 60; time++ {
					if has := impl.Holds(bounds[i], time); has != may[time] || ids[i] != p.Id {
						t.Fatalf("%v by %v at %d: %v of %d; that it has %d is %v", p, d, at, bounds[i], ids[i], time, has)
					}
				}
			}
		}
	}
}

func unmarked(list []impl.Peer) []impl.Peer {
	bare := slices.Clone(list)
	for i := range bare {
		bare[i].Suspect = false
	}
	return bare
}

// P10: marks change no Id, no Bound, no At and no order; of those that are carried they say whether it meets, and all others are as they were.
func TestMarksChangeNothingButMarks(t *testing.T) {
	draw := &lottery{state: 30}
	seen := map[[3]bool]int{}
	for range 30000 {
		list := draw.peers(draw.number(impl.MaxNodes+1), 30)
		d, at, life := smallDrifts(4)[draw.number(len(smallDrifts(4)))], draw.number(40), draw.number(30)
		a := draw.sources(1, 60)[0]
		bounds, ids := impl.PeersCarried(list, d, at, life)
		marked := impl.PeersMark(list, d, at, life, a)
		if !impl.PeersOk(marked) || !slices.Equal(unmarked(marked), unmarked(list)) {
			t.Fatalf("%v by %v at %d of %d, by %v: %v", list, d, at, life, a, marked)
		}
		for i, p := range list {
			want, place := p.Suspect, slices.Index(ids, p.Id)
			if place >= 0 {
				want = impl.Apart(bounds[place], a) > 0
			}
			if marked[i].Suspect != want {
				t.Fatalf("%v by %v at %d of %d, by %v: %v is suspect: %v", list, d, at, life, a, p, marked[i].Suspect)
			}
			seen[[3]bool{place >= 0, p.Suspect, want}]++
		}
		// Marked again by the same, nothing is left to change; and marks are not looked at where sources are carried.
		checkMark(t, marked, d, at, life, a, marked)
		checkPeersCarried(t, marked, d, at, life, carriedAnswer{bounds, ids})
		checkFresh(t, marked, at, life, impl.PeersFresh(list, at, life)...)
	}
	for _, kind := range [][3]bool{{true, false, false}, {true, false, true}, {true, true, false}, {true, true, true}, {false, false, false}, {false, true, true}} {
		if seen[kind] < 1000 {
			t.Fatal("too few of a kind", seen)
		}
	}
}

// A mark outlives what it came of: it goes only with what is carried and meets, or with its peer.
func TestMarksThatStay(t *testing.T) {
	d := dr(1, 4)
	list := peers(pe(2, 10, 12, 100), pe(5, 20, 22, 100))
	marked := impl.PeersMark(list, d, 110, 10, iv(30, 40))
	want := peers(suspected(pe(2, 10, 12, 100)), pe(5, 20, 22, 100))
	if !slices.Equal(marked, want) {
		t.Fatal(marked)
	}
	// Too old by one, with an interval that it would meet.
	checkMark(t, marked, d, 110, 9, iv(18, 25), want)
	// It says something else, and is suspect still, until that is carried and meets.
	said := peers(suspected(pe(2, 50, 50, 112)), pe(5, 20, 22, 100))
	checkPut(t, marked, pe(2, 50, 50, 112), put(said...))
	checkSure(t, said, 5)
	checkMark(t, said, d, 111, 11, iv(33, 34), said)
	checkMark(t, said, d, 112, 11, iv(50, 60), peers(pe(2, 50, 50, 112), pe(5, 20, 22, 100)))
	// Dropped and put in again it comes without a mark.
	without, _ := impl.PeerDrop(said, 2)
	checkPut(t, without, pe(2, 50, 50, 112), put(pe(2, 50, 50, 112), pe(5, 20, 22, 100)))
}

// P10: what is put in and dropped leaves the list as it was, if its Id was not there; what is put in twice stands once, with what was said last.
func TestPutAndDropLeaveTheListAsItWas(t *testing.T) {
	draw := &lottery{state: 19}
	came, changed := 0, 0
	for range 4000 {
		list := draw.peers(draw.number(impl.MaxNodes+1), 50)
		p, again := pe(draw.number(impl.MaxNodes), -7, 9, draw.number(90)), pe(0, 4, 6, draw.number(90))
		place := slices.IndexFunc(list, func(q impl.Peer) bool { return q.Id == p.Id })
		with, code := impl.PeerPut(list, p.Id, p.Bound, p.At)
		without, dropped := impl.PeerDrop(with, p.Id)
		if code != impl.PeerDone || dropped != impl.PeerDone {
			t.Fatalf("%v, %v: %d, %d", list, p, code, dropped)
		}
		was := slices.Clone(list)
		if place >= 0 {
			was = slices.Delete(was, place, place+1)
			p.Suspect = list[place].Suspect
			changed++
		} else {
			came++
		}
		if !slices.Equal(without, was) {
			t.Fatalf("%v, with and without %v: %v", list, p, without)
		}
		checkPeerDrop(t, without, p.Id, peersAnswer{was, impl.PeerNone})
		// The second time it stands where it stood, alone, and no one else is moved.
		again.Id, again.Suspect = p.Id, p.Suspect
		if i := slices.Index(with, p); i < 0 {
			t.Fatalf("%v with %v: %v", list, p, with)
		} else {
			with[i] = again
		}
		twice, _ := impl.PeerPut(list, p.Id, p.Bound, p.At)
		checkPut(t, twice, again, put(with...))
	}
	if came < 1000 || changed < 1000 {
		t.Fatal("too few", came, changed)
	}
}

// In whatever order they are put in, the list is the same.
func TestTheOrderOfPutsIsNothing(t *testing.T) {
	draw := &lottery{state: 44}
	for range 500 {
		list := unmarked(draw.peers(draw.number(impl.MaxNodes+1), 50))
		mixed := slices.Clone(list)
		for i := range mixed {
			j := draw.number(i + 1)
			mixed[i], mixed[j] = mixed[j], mixed[i]
		}
		var got []impl.Peer
		for _, p := range mixed {
			got, _ = impl.PeerPut(got, p.Id, p.Bound, p.At)
		}
		if !slices.Equal(got, list) {
			t.Fatalf("%v came to %v", mixed, got)
		}
	}
}

// The first n of a room are the list; what stands behind them is none of it.
func roomyPeers() (rooms [][]impl.Peer, lengths []int) {
	spare := peers(pe(-7, -7, -8, -7), suspected(pe(-9, -9, -10, -9)))
	lists := [][]impl.Peer{turned(peersWith(3)), append(peersWith(impl.MaxNodes), pe(8, 3, 7, 5)), peers(pe(3, 7, 6, 5))}
	for n := range impl.MaxNodes + 1 {
		lists = append(lists, peersWith(n))
	}
	for _, list := range lists {
		rooms = append(rooms, slices.Concat(list, spare))
		lengths = append(lengths, len(list))
	}
	return rooms, lengths
}

// Calls that are done and that are refused, of each function that tells peers.
func peersCalls() map[string]func(list []impl.Peer) []impl.Peer {
	put := func(id, at int) func(list []impl.Peer) []impl.Peer {
		return func(list []impl.Peer) []impl.Peer { got, _ := impl.PeerPut(list, id, iv(5, 6), at); return got }
	}
	drop := func(id int) func(list []impl.Peer) []impl.Peer {
		return func(list []impl.Peer) []impl.Peer { got, _ := impl.PeerDrop(list, id); return got }
	}
	mark := func(at int, a impl.Ival) func(list []impl.Peer) []impl.Peer {
		return func(list []impl.Peer) []impl.Peer { return impl.PeersMark(list, dr(1, 4), at, 60, a) }
	}
	return map[string]func(list []impl.Peer) []impl.Peer{
		"put first": put(0, 9), "put last": put(7, 9), "put between": put(3, 9), "put bad": put(8, 9), "put bad at": put(3, -1),
		"drop first": drop(0), "drop last": drop(7), "drop between": drop(4), "drop none": drop(8),
		"mark all": mark(60, iv(0, 0)), "mark none": mark(60, iv(-far, far)), "mark some": mark(60, iv(120, 130)), "mark old": mark(10, iv(0, 0)), "mark bad": mark(60, iv(1, 0)),
	}
}

// Of each function that tells numbers.
func peersNumbers() map[string]func(list []impl.Peer) []int {
	return map[string]func(list []impl.Peer) []int{
		"PeersFresh":   func(list []impl.Peer) []int { return impl.PeersFresh(list, 60, 7) },
		"all fresh":    func(list []impl.Peer) []int { return impl.PeersFresh(list, 60, 60) },
		"fresh bad":    func(list []impl.Peer) []int { return impl.PeersFresh(list, -1, 60) },
		"PeersSure":    impl.PeersSure,
		"PeersCarried": func(list []impl.Peer) []int { _, ids := impl.PeersCarried(list, dr(1, 4), 60, 60); return ids },
		"carried bad":  func(list []impl.Peer) []int { _, ids := impl.PeersCarried(list, dr(1, 1), 60, 60); return ids },
		"PeerAge":      func(list []impl.Peer) []int { return []int{impl.PeerAge(list, 4, 60), impl.PeerAge(list, 8, 60)} },
	}
}

// P23: what is answered has memory of its own, and neither the list nor the spare room behind it is written into; a call that is made again answers the same.
func checkSharesNothing[T comparable](t *testing.T, name string, call func(list []impl.Peer) []T, with T) int {
	t.Helper()
	told := 0
	rooms, lengths := roomyPeers()
	for i, room := range rooms {
		kept, list := slices.Clone(room), room[:lengths[i]]
		one, other := call(list), call(list)
		answer := slices.Clone(one)
		if !slices.Equal(room, kept) || !slices.Equal(other, answer) {
			t.Fatalf("%s of %v: %v, %v; the room is %v", name, kept[:lengths[i]], one, other, room)
		}
		overwrite(one, with)
		if !slices.Equal(room, kept) || !slices.Equal(other, answer) {
			t.Fatalf("%s of %v: an answer was written into: %v, %v", name, kept[:lengths[i]], other, room)
		}
		overwrite(room, suspected(pe(-5, -5, -6, -5)))
		if !slices.Equal(other, answer) {
			t.Fatalf("%s of %v: the list was written into, and the answer is %v", name, kept[:lengths[i]], other)
		}
		told += len(answer)
	}
	return told
}

func TestPeersAnswersShareNothing(t *testing.T) {
	told := 0
	for name, call := range peersCalls() {
		told += checkSharesNothing(t, name, call, pe(-6, -6, -7, -6))
	}
	for name, call := range peersNumbers() {
		told += checkSharesNothing(t, name, call, -6)
	}
	bounds := func(list []impl.Peer) []impl.Ival { a, _ := impl.PeersCarried(list, dr(1, 4), 60, 60); return a }
	told += checkSharesNothing(t, "the bounds of PeersCarried", bounds, iv(-6, -7))
	if told < 500 {
		t.Fatal("what was written over", told)
	}
}

// What a call answers hangs on its arguments alone, and not on the order in which a map is gone through.
func TestPeersAnswersAreTheSameEachTime(t *testing.T) {
	list := peersWith(impl.MaxNodes)
	told := wantCarried(list, dr(1, 4), 60, 60)
	for range 300 {
		checkPut(t, list, pe(3, 5, 6, 9), wantPut(list, 3, iv(5, 6), 9))
		checkPeerDrop(t, list, 3, wantPeerDrop(list, 3))
		checkPeerDrop(t, list, math.MaxInt, peersAnswer{list, impl.PeerNone})
		checkMark(t, list, dr(1, 4), 60, 60, iv(120, 130), wantMark(list, told, iv(120, 130)))
		checkSure(t, list, wantSure(list)...)
		checkPeersCarried(t, list, dr(1, 4), 60, 60, told)
	}
}
