package tests

import (
	"math"
	"slices"
	"testing"

	"loop.example/g00072/impl"
)

func TestCodesOfPeersAreNumbered(t *testing.T) {
	if codes := [3]int{impl.PeerDone, impl.PeerBad, impl.PeerNone}; codes != [3]int{0, 1, 2} {
		t.Error(codes)
	}
}

func checkPeersOk(t *testing.T, list []impl.Peer, want bool) {
	t.Helper()
	if got := impl.PeersOk(list); got != want {
		t.Fatalf("PeersOk(%v) is %v", list, got)
	}
}

func checkPut(t *testing.T, list []impl.Peer, p impl.Peer, want peersAnswer) {
	t.Helper()
	got, code := impl.PeerPut(list, p.Id, p.Bound, p.At)
	if !slices.Equal(got, want.list) || code != want.code {
		t.Fatalf("PeerPut(%v, %d, %v, %d): got %v, %d, want %v", list, p.Id, p.Bound, p.At, got, code, want)
	}
}

func checkFresh(t *testing.T, list []impl.Peer, at, life int, want ...int) {
	t.Helper()
	if got := impl.PeersFresh(list, at, life); !slices.Equal(got, want) {
		t.Fatalf("PeersFresh(%v, %d, %d): got %v, want %v", list, at, life, got, want)
	}
}

func checkPeersCarried(t *testing.T, list []impl.Peer, d impl.Drift, at, life int, want carriedAnswer) {
	t.Helper()
	bounds, ids := impl.PeersCarried(list, d, at, life)
	if !slices.Equal(bounds, want.bounds) || !slices.Equal(ids, want.ids) {
		t.Fatalf("PeersCarried(%v, %v, %d, %d): got %v, %v, want %v", list, d, at, life, bounds, ids, want)
	}
}

func checkMark(t *testing.T, list []impl.Peer, d impl.Drift, at, life int, a impl.Ival, want []impl.Peer) {
	t.Helper()
	if got := impl.PeersMark(list, d, at, life, a); !slices.Equal(got, want) {
		t.Fatalf("PeersMark(%v, %v, %d, %d, %v): got %v, want %v", list, d, at, life, a, got, want)
	}
}

func checkPeerDrop(t *testing.T, list []impl.Peer, id int, want peersAnswer) {
	t.Helper()
	got, code := impl.PeerDrop(list, id)
	if !slices.Equal(got, want.list) || code != want.code {
		t.Fatalf("PeerDrop(%v, %d): got %v, %d, want %v", list, id, got, code, want)
	}
}

func checkSure(t *testing.T, list []impl.Peer, want ...int) {
	t.Helper()
	if got := impl.PeersSure(list); !slices.Equal(got, want) {
		t.Fatalf("PeersSure(%v): got %v, want %v", list, got, want)
	}
}

func checkAge(t *testing.T, list []impl.Peer, id, at, want int) {
	t.Helper()
	if got := impl.PeerAge(list, id, at); got != want {
		t.Fatalf("PeerAge(%v, %d, %d) is %d, want %d", list, id, at, got, want)
	}
}

func put(list ...impl.Peer) peersAnswer { return peersAnswer{list, impl.PeerDone} }

func TestPeersOkAtItsLimits(t *testing.T) {
	checkPeersOk(t, nil, true)
	checkPeersOk(t, peers(), true)
	// The zero value is a peer: the node 0 said at the count 0 that it is 0.
	checkPeersOk(t, peers(impl.Peer{}), true)
	for n := range impl.MaxNodes + 1 {
		checkPeersOk(t, peersWith(n), true)
	}
	checkPeersOk(t, peers(pe(0, 3, 7, 5), pe(1, 3, 7, 5)), true)
	checkPeersOk(t, peers(pe(0, 3, 7, 5), pe(impl.MaxNodes-1, 3, 7, 5)), true)
	for _, p := range rightPeers() {
		checkPeersOk(t, peers(p), true)
		if p.Id == 4 {
			checkPeersOk(t, peers(pe(3, 3, 7, 5), p, suspected(pe(5, 3, 7, 5))), true)
		}
	}
	for name, list := range wrongLists() {
		if impl.PeersOk(list) || wantPeersOk(list) {
			t.Errorf("%s: it is PeersOk", name)
		}
	}
}

// Every two Ids at every two places of MaxNodes peers: swapped, and alike.
func TestPeersOkOfIdsAtAnyTwoPlaces(t *testing.T) {
	for i := range impl.MaxNodes {
		for j := range impl.MaxNodes {
			list := peersWith(impl.MaxNodes)
			list[i].Id, list[j].Id = list[j].Id, list[i].Id
			checkPeersOk(t, list, i == j)
			list = peersWith(impl.MaxNodes)
			list[i].Id = list[j].Id
			checkPeersOk(t, list, i == j)
		}
	}
}

// A wrong peer is told at every place among those that are right.
func TestPeersOkOfEachPeer(t *testing.T) {
	for place := range impl.MaxNodes {
		for _, wrong := range wrongPeers() {
			list := peersWith(impl.MaxNodes)
			if wrong.Id == 4 {
				wrong.Id = place
			}
			list[place] = wrong
			checkPeersOk(t, list, false)
		}
	}
}

// Beside a list that is none every answer is the one that the document names, whatever else is right.
func TestOfAListThatIsNoneNothingIsTold(t *testing.T) {
	for name, list := range wrongLists() {
		t.Run(name, func(t *testing.T) {
			checkPut(t, list, pe(5, 3, 7, 5), peersAnswer{code: impl.PeerBad})
			checkPut(t, list, pe(-1, 3, 7, 5), peersAnswer{code: impl.PeerBad})
			checkFresh(t, list, 60, 60)
			checkFresh(t, list, far, far)
			checkPeersCarried(t, list, dr(1, 4), 60, 60, carriedAnswer{})
			checkPeersCarried(t, list, dr(1, 1), 60, 60, carriedAnswer{})
			checkMark(t, list, dr(1, 4), 60, 60, iv(0, 1), nil)
			checkMark(t, list, dr(1, 1), -1, -1, iv(1, 0), nil)
			for id := -1; id <= impl.MaxNodes; id++ {
				checkPeerDrop(t, list, id, peersAnswer{code: impl.PeerBad})
				checkAge(t, list, id, 60, -1)
			}
			checkSure(t, list)
		})
	}
}

func TestPutAtItsPlace(t *testing.T) {
	a, b, c := pe(2, 10, 12, 100), suspected(pe(4, 30, 31, 108)), pe(6, -5, 5, 3)
	list := peers(a, b, c)
	for id := range impl.MaxNodes {
		p := pe(id, 50, 60, 9)
		want := map[int]peersAnswer{
			0: put(p, a, b, c), 1: put(p, a, b, c), 2: put(p, b, c), 3: put(a, p, b, c),
			4: put(a, suspected(p), c), 5: put(a, b, p, c), 6: put(a, b, p), 7: put(a, b, c, p),
		}
		checkPut(t, list, p, want[id])
		checkPut(t, nil, p, put(p))
		checkPut(t, peers(), p, put(p))
	}
	// What is got may be older than what was there, and it counts all the same.
	checkPut(t, list, pe(2, 0, 0, 0), put(pe(2, 0, 0, 0), b, c))
	checkPut(t, list, pe(2, 10, 12, 100), put(list...))
	checkPut(t, list, pe(4, 30, 31, 108), put(list...))
}

func TestPutAtTheLimitsOfAPeer(t *testing.T) {
	around := peers(pe(3, 3, 7, 5), pe(5, 3, 7, 5))
	for _, p := range rightPeers() {
		p.Suspect = false
		checkPut(t, nil, p, put(p))
		checkPut(t, around, p, wantPut(around, p.Id, p.Bound, p.At))
		// Over each one that may be there already.
		for _, old := range rightPeers() {
			old.Id = p.Id
			fresh := p
			fresh.Suspect = old.Suspect
			checkPut(t, peers(old), p, put(fresh))
		}
	}
	for _, p := range wrongPeers() {
		for _, list := range [][]impl.Peer{nil, around, peers(pe(4, 3, 7, 5)), peersWith(impl.MaxNodes)} {
			checkPut(t, list, p, peersAnswer{code: impl.PeerBad})
		}
	}
}

// From none to MaxNodes peers, in an order that is not theirs; each may then be put in once more.
func TestPutUpToMaxNodes(t *testing.T) {
	var list []impl.Peer
	for i := range impl.MaxNodes {
		p := pe(5*i%impl.MaxNodes, i, i+3, 10*i)
		next, code := impl.PeerPut(list, p.Id, p.Bound, p.At)
		if code != impl.PeerDone || len(next) != i+1 || !impl.PeersOk(next) {
			t.Fatalf("%v with %v: %v, %d", list, p, next, code)
		}
		list = next
	}
	for i := range impl.MaxNodes {
		list[i].Suspect = i%2 == 0
	}
	for id := range impl.MaxNodes {
		want := slices.Clone(list)
		want[id].Bound, want[id].At = iv(-far, far), far
		checkPut(t, list, pe(id, -far, far, far), put(want...))
	}
	checkPut(t, list, pe(impl.MaxNodes, 3, 7, 5), peersAnswer{code: impl.PeerBad})
	checkPut(t, list, pe(-1, 3, 7, 5), peersAnswer{code: impl.PeerBad})
}

func TestFreshAtItsLimits(t *testing.T) {
	list := peers(pe(1, 3, 7, 100), suspected(pe(2, 3, 7, 108)), pe(7, 3, 7, 110))
	cases := []struct {
		at, life int
		want     []int
	}{
		// at less At at -1, 0, just life and one more.
		{99, 50, nil},
		{100, 0, []int{0}},
		{100, 50, []int{0}},
		{101, 0, nil},
		{105, 5, []int{0}},
		{105, 4, nil},
		{107, 7, []int{0}},
		{108, 8, []int{0, 1}},
		{108, 7, []int{1}},
		{110, 0, []int{2}},
		{110, 1, []int{2}},
		{110, 2, []int{1, 2}},
		{110, 9, []int{1, 2}},
		{110, 10, []int{0, 1, 2}},
		{111, 2, []int{2}},
		{160, 50, []int{2}},
		{161, 50, nil},
		{0, far, nil},
		{far, far, []int{0, 1, 2}},
		{far, far - 100, []int{0, 1, 2}},
		{far, far - 101, []int{1, 2}},
		{far, 0, nil},
		// at and life one beyond their limits, and at the outermost ints.
		{-1, 50, nil},
		{far + 1, far, nil},
		{110, -1, nil},
		{110, far, []int{0, 1, 2}},
		{110, far + 1, nil},
		{math.MinInt, 50, nil},
		{math.MaxInt, 50, nil},
		{110, math.MinInt, nil},
		{110, math.MaxInt, nil},
		{math.MinInt, math.MaxInt, nil},
		{math.MaxInt, math.MaxInt, nil},
	}
	for _, c := range cases {
		checkFresh(t, list, c.at, c.life, c.want...)
		checkFresh(t, nil, c.at, c.life)
	}
	ends := peers(pe(0, 3, 7, 0), pe(1, 3, 7, far))
	checkFresh(t, ends, 0, 0, 0)
	checkFresh(t, ends, far, 0, 1)
	checkFresh(t, ends, far, far-1, 1)
	checkFresh(t, ends, far, far, 0, 1)
	checkFresh(t, ends, far-1, far, 0)
}

func carried(bounds []impl.Ival, ids ...int) carriedAnswer { return carriedAnswer{bounds, ids} }

func TestCarriedToACount(t *testing.T) {
	d := dr(1, 4)
	list := peers(pe(1, 30, 31, 108), suspected(pe(2, 10, 12, 100)), pe(5, 0, 0, 111))
	checkPeersCarried(t, list, d, 110, 50, carried(ivals(iv(32, 33), iv(18, 25)), 1, 2))
	checkPeersCarried(t, list, d, 110, 10, carried(ivals(iv(32, 33), iv(18, 25)), 1, 2))
	checkPeersCarried(t, list, d, 110, 9, carried(ivals(iv(32, 33)), 1))
	checkPeersCarried(t, list, d, 100, 9, carried(ivals(iv(10, 12)), 2))
	checkPeersCarried(t, list, d, 111, 3, carried(ivals(iv(33, 35), iv(0, 0)), 1, 5))
	checkPeersCarried(t, list, d, 99, 50, carriedAnswer{})
	checkPeersCarried(t, nil, d, 110, 50, carriedAnswer{})
	checkPeersCarried(t, list, dr(0, 1), 120, 50, carried(ivals(iv(42, 43), iv(30, 32), iv(9, 9)), 1, 2, 5))
	for _, wrong := range []int{-1, far + 1, math.MinInt, math.MaxInt} {
		checkPeersCarried(t, list, d, wrong, 50, carriedAnswer{})
		checkPeersCarried(t, list, d, 110, wrong, carriedAnswer{})
	}
}

// Of these the bound runs over, or its stretch does, but not of the others.
func TestWhatRunsOverIsLeftOut(t *testing.T) {
	d := dr(1, 4)
	// Ten counts are 8 to 13 of time.
	over, just := pe(1, far-13, far-12, 100), pe(3, far-13, far-13, 100)
	low := pe(6, -far, -far, 100)
	list := peers(suspected(pe(0, 5, 6, 100)), over, just, low)
	checkPeersCarried(t, list, d, 110, 10, carried(ivals(iv(13, 19), iv(far-5, far), iv(-far+8, -far+13)), 0, 3, 6))
	marked := peers(pe(0, 5, 6, 100), over, suspected(just), suspected(low))
	checkMark(t, list, d, 110, 10, iv(19, 19), marked)
	// The one that runs over stays as it was, suspect or not, though its bound meets the interval or misses it.
	for _, a := range ivals(iv(19, 19), iv(-far, far), iv(far-13, far), iv(far, far)) {
		for _, p := range peers(over, suspected(over)) {
			checkMark(t, peers(p), d, 110, 10, a, peers(p))
		}
	}
	// So long a stretch is none, whatever the bound is.
	old := peers(pe(2, -far, -far, 0), suspected(pe(4, -far, -far, 0)), pe(5, -far, -far, far-4))
	checkPeersCarried(t, old, d, far, far, carried(ivals(iv(-far+4, -far+5)), 5))
	checkMark(t, old, d, far, far, iv(0, 0), peers(old[0], old[1], suspected(old[2])))
	checkMark(t, old, d, far, far, iv(-far, far), old)
}

// A drift that is none has a code for each peer: nothing is carried, and all marks stay.
func TestADriftThatIsNone(t *testing.T) {
	list := peersWith(impl.MaxNodes)
	for _, d := range mixedDrifts() {
		if impl.DriftOk(d) {
			continue
		}
		checkFresh(t, list, 60, 60, 0, 1, 2, 3, 4, 5, 6, 7)
		checkPeersCarried(t, list, d, 60, 60, carriedAnswer{})
		checkMark(t, list, d, 60, 60, iv(0, 0), list)
		checkMark(t, list, d, 60, 60, iv(-far, far), list)
		checkMark(t, list, d, 60, 60, iv(1, 0), nil)
	}
}

func TestMarksByAnInterval(t *testing.T) {
	d := dr(1, 4)
	// Carried to 110 this is 18 to 25.
	p := pe(2, 10, 12, 100)
	cases := []struct {
		a       impl.Ival
		suspect bool
	}{
		{iv(0, 17), true},
		{iv(0, 18), false},
		{iv(17, 17), true},
		{iv(18, 18), false},
		{iv(20, 21), false},
		{iv(25, 25), false},
		{iv(25, 90), false},
		{iv(26, 26), true},
		{iv(26, 90), true},
		{iv(0, 90), false},
		{iv(-far, far), false},
		{iv(-far, 17), true},
		{iv(-far, 18), false},
		{iv(25, far), false},
		{iv(26, far), true},
		// What was said misses it, what is carried meets it, and the other way round.
		{iv(10, 12), true},
		{iv(13, 19), false},
	}
	for _, c := range cases {
		for _, old := range peers(p, suspected(p)) {
			want := p
			want.Suspect = c.suspect
			checkMark(t, peers(old), d, 110, 10, c.a, peers(want))
			// Too old, or not yet got: the mark stays, whatever the interval is.
			checkMark(t, peers(old), d, 110, 9, c.a, peers(old))
			checkMark(t, peers(old), d, 99, 10, c.a, peers(old))
		}
	}
}

func TestMarksAmongMany(t *testing.T) {
	d := dr(1, 4)
	fresh, old, late := pe(0, 10, 12, 100), pe(3, 10, 12, 89), pe(7, 10, 12, 111)
	list := peers(suspected(fresh), pe(1, 100, 101, 105), suspected(pe(2, 100, 101, 105)), old, suspected(pe(5, 10, 12, 89)), late)
	want := peers(fresh, suspected(pe(1, 100, 101, 105)), suspected(pe(2, 100, 101, 105)), old, suspected(pe(5, 10, 12, 89)), late)
	checkMark(t, list, d, 110, 20, iv(25, 30), want)
	checkMark(t, want, d, 110, 20, iv(25, 30), want)
	all := peers(suspected(fresh), pe(1, 100, 101, 105), pe(2, 100, 101, 105), old, suspected(pe(5, 10, 12, 89)), late)
	checkMark(t, want, d, 110, 20, iv(100, 300), all)
	checkMark(t, nil, d, 110, 20, iv(25, 30), nil)
	// An at or a life that is none carries nobody, so that all marks stay.
	for _, wrong := range []int{-1, far + 1, math.MinInt, math.MaxInt} {
		checkMark(t, list, d, wrong, 20, iv(25, 30), list)
		checkMark(t, list, d, 110, wrong, iv(25, 30), list)
		checkMark(t, list, d, wrong, wrong, iv(-far, far), list)
	}
	for _, a := range wrongSources() {
		checkMark(t, list, d, 110, 20, a, nil)
		checkMark(t, list, d, -1, 20, a, nil)
		checkMark(t, list, dr(1, 1), 110, 20, a, nil)
		checkMark(t, nil, d, 110, 20, a, nil)
	}
}

func TestDropOfEach(t *testing.T) {
	a, b, c := pe(0, 10, 12, 100), suspected(pe(4, 30, 31, 108)), pe(7, -5, 5, 3)
	list := peers(a, b, c)
	checkPeerDrop(t, list, 0, put(b, c))
	checkPeerDrop(t, list, 4, put(a, c))
	checkPeerDrop(t, list, 7, put(a, b))
	checkPeerDrop(t, peers(b), 4, put())
	// Nobody of that Id, also where no node can be of it.
	for _, id := range []int{math.MinInt, -4, -1, 1, 3, 5, 6, impl.MaxNodes, impl.MaxNodes + 4, math.MaxInt} {
		checkPeerDrop(t, list, id, peersAnswer{list, impl.PeerNone})
		checkPeerDrop(t, nil, id, peersAnswer{nil, impl.PeerNone})
	}
	full := peersWith(impl.MaxNodes)
	for id := range full {
		checkPeerDrop(t, full, id, put(slices.Delete(slices.Clone(full), id, id+1)...))
	}
	checkPeerDrop(t, full, impl.MaxNodes, peersAnswer{full, impl.PeerNone})
}

func TestSureOnes(t *testing.T) {
	checkSure(t, nil)
	checkSure(t, peers(impl.Peer{}), 0)
	checkSure(t, peers(suspected(impl.Peer{})))
	// Every choice of MaxNodes peers as suspect ones.
	for choice := range 1 << impl.MaxNodes {
		list := peersWith(impl.MaxNodes)
		var want []int
		for id := range list {
			list[id].Suspect = choice>>id&1 == 1
			if !list[id].Suspect {
				want = append(want, id)
			}
		}
		checkSure(t, list, want...)
		checkSure(t, slices.Delete(list, 3, 4), slices.DeleteFunc(want, func(id int) bool { return id == 3 })...)
	}
}

func TestAgesAtTheirLimits(t *testing.T) {
	list := peers(pe(0, 3, 7, 0), suspected(pe(2, 3, 7, 100)), pe(7, 3, 7, far))
	cases := []struct{ id, at, want int }{
		{2, 110, 10},
		{2, 101, 1},
		{2, 100, 0},
		{2, 99, -1},
		{2, 0, -1},
		{2, far, far - 100},
		{0, 0, 0},
		{0, far, far},
		{7, far, 0},
		{7, far - 1, -1},
		{7, 0, -1},
		// Nobody of that Id.
		{1, 110, -1},
		{6, 110, -1},
		{-1, 110, -1},
		{impl.MaxNodes, 110, -1},
		{math.MinInt, 110, -1},
		{math.MaxInt, 110, -1},
		// at one beyond its limits.
		{0, -1, -1},
		{0, far + 1, -1},
		{7, far + 1, -1},
		{2, math.MinInt, -1},
		{2, math.MaxInt, -1},
		{1, far + 1, -1},
	}
	for _, c := range cases {
		checkAge(t, list, c.id, c.at, c.want)
		checkAge(t, nil, c.id, c.at, -1)
	}
}

type peersAsked struct {
	ids    []int
	counts []int
	lives  []int
	drifts []impl.Drift
	bounds []impl.Ival
}

// Every function of the chapter against the document's words written again, at all of these.
func checkPeersFunctions(t *testing.T, list []impl.Peer, with peersAsked) {
	t.Helper()
	checkPeersOk(t, list, wantPeersOk(list))
	checkSure(t, list, wantSure(list)...)
	for _, id := range with.ids {
		checkPeerDrop(t, list, id, wantPeerDrop(list, id))
		for _, at := range with.counts {
			checkAge(t, list, id, at, wantAge(list, id, at))
			for _, bound := range with.bounds {
				checkPut(t, list, impl.Peer{Id: id, Bound: bound, At: at}, wantPut(list, id, bound, at))
			}
		}
	}
	for _, at := range with.counts {
		for _, life := range with.lives {
			checkFresh(t, list, at, life, wantFresh(list, at, life)...)
			for _, d := range with.drifts {
				told := wantCarried(list, d, at, life)
				checkPeersCarried(t, list, d, at, life, told)
				for _, a := range with.bounds {
					checkMark(t, list, d, at, life, a, wantMark(list, told, a))
				}
			}
		}
	}
}

// Every list of up to three of these, right and wrong, at the edges (P10 and P23).
func TestPeersAgainstTheModel(t *testing.T) {
	pool := peers(
		pe(0, 3, 7, 5), suspected(pe(1, -far, -far, 0)), pe(2, far-9, far, 4), suspected(pe(2, 0, 0, far)), pe(7, -far, far, 5),
		pe(8, 3, 7, 5), pe(3, 7, 6, 5), suspected(pe(3, 3, 7, far+1)), pe(math.MinInt, math.MinInt, math.MaxInt, math.MinInt),
	)
	with := peersAsked{
		ids:    []int{math.MinInt, -1, 0, 2, 3, 7, 8, math.MaxInt},
		counts: []int{math.MinInt, -1, 0, 4, 5, 6, 9, far, far + 1, math.MaxInt},
		lives:  []int{math.MinInt, -1, 0, 1, 5, far, far + 1, math.MaxInt},
		drifts: []impl.Drift{dr(0, 1), dr(1, 4), dr(1, 1)},
		bounds: ivals(iv(7, 8), iv(-far, far), iv(far, far), iv(6, 5), iv(0, far+1), iv(math.MaxInt, math.MinInt)),
	}
	lists := listsOf(pool, 3)
	if len(lists) != 1+9+81+729 {
		t.Fatal("lists", len(lists))
	}
	for _, list := range lists {
		checkPeersFunctions(t, list, with)
	}
}

// Lists of every length, of few numbers, so that what is carried often just meets an interval or just misses it.
func TestPeersOfAnyLengthAgainstTheModel(t *testing.T) {
	draw := &lottery{state: 10}
	for n := range impl.MaxNodes + 1 {
		for range 6 {
			list := draw.peers(n, 12)
			checkPeersFunctions(t, list, peersAsked{
				ids:    []int{-1, 0, 1, 2, 3, 4, 5, 6, 7, 8},
				counts: []int{0, 3, 7, 11, 12, 14},
				lives:  []int{0, 2, 5, 12},
				drifts: smallDrifts(3),
				bounds: draw.sources(5, 20),
			})
		}
	}
}

// So many peers, with bounds and counts below most.
func (l *lottery) peers(n, most int) []impl.Peer {
	free := []int{0, 1, 2, 3, 4, 5, 6, 7}
	for len(free) > n {
		i := l.number(len(free))
		free = slices.Delete(free, i, i+1)
	}
	var list []impl.Peer
	for i, bound := range l.sources(n, most) {
		list = append(list, impl.Peer{Id: free[i], Bound: bound, At: l.number(most), Suspect: l.number(2) == 1})
	}
	return list
}
