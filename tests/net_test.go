package tests

import (
	"math"
	"slices"
	"strings"
	"testing"

	"loop.example/g00072/impl"
)

func checkNet(t *testing.T, name string, net impl.Net, code int, want netAnswer) {
	t.Helper()
	if !sameNet(net, want.net) || code != want.code {
		t.Fatalf("%s: got %#v, %d, want %#v, %d", name, net, code, want.net, want.code)
	}
}

func checkTake(t *testing.T, n impl.Net, i int, want takeAnswer) {
	t.Helper()
	net, f, code := impl.NetTake(n, i)
	if !sameNet(net, want.net) || f != want.f || code != want.code {
		t.Fatalf("NetTake(%#v, %d): got %#v, %#v, %d, want %#v", n, i, net, f, code, want)
	}
}

func checkSend(t *testing.T, n impl.Net, f impl.Flight, want netAnswer) {
	t.Helper()
	net, code := impl.NetSend(n, f.From, f.To, f.Bytes, f.At)
	checkNet(t, "NetSend", net, code, want)
}

// Flights at the limits of a net whose Next is 5, and one beyond.
func edgeFlights() (right, wrong []impl.Flight) {
	full := strings.Repeat("x", impl.MaxBytes)
	right = []impl.Flight{
		fl(0, 0, 0, "", 0),
		fl(4, 0, 0, "", 0),
		fl(0, 7, 0, "", 0),
		fl(0, 0, 7, "", 0),
		fl(0, 7, 7, "", 0),
		fl(2, 3, 3, "b", 9),
		fl(0, 0, 1, full, 0),
		fl(0, 0, 1, strings.Repeat("\xff", impl.MaxBytes), 0),
		fl(0, 0, 1, strings.Repeat("\u00e4", impl.MaxBytes/2), 0),
		fl(0, 0, 1, "\x00", far),
		fl(4, 7, 7, full, far),
	}
	wrong = []impl.Flight{
		fl(-1, 0, 1, "", 0),
		fl(5, 0, 1, "", 0),
		fl(math.MinInt, 0, 1, "", 0),
		fl(math.MaxInt, 0, 1, "", 0),
		fl(0, -1, 1, "", 0),
		fl(0, impl.MaxNodes, 1, "", 0),
		fl(0, math.MinInt, 1, "", 0),
		fl(0, math.MaxInt, 1, "", 0),
		fl(0, 1, -1, "", 0),
		fl(0, 1, impl.MaxNodes, "", 0),
		fl(0, 1, math.MinInt, "", 0),
		fl(0, 1, math.MaxInt, "", 0),
		fl(0, 0, 1, full+"x", 0),
		// The bytes of a text count, not its letters.
		fl(0, 0, 1, strings.Repeat("\u00e4", impl.MaxBytes/2)+"x", 0),
		fl(0, 0, 1, "", -1),
		fl(0, 0, 1, "", far+1),
		fl(0, 0, 1, "", math.MinInt),
		fl(0, 0, 1, "", math.MaxInt),
	}
	return right, wrong
}

// Nets that are none, with the reason.
func wrongNets() map[string]impl.Net {
	many := netWith(impl.MaxFlights + 1)
	all := netWith(impl.MaxFlights)
	all.Next = -1
	beyond := netWith(3)
	beyond.Next = impl.MaxFlightId + 1
	short := netWith(3)
	short.Next = 6
	alike := netWith(4)
	alike.List[3].Id = alike.List[0].Id
	twice := netWith(4)
	twice.List[2] = twice.List[1]
	nets := map[string]impl.Net{
		"Next below 0":                         netOf(-1),
		"Next below 0, and full":               all,
		"Next above MaxFlightId":               netOf(impl.MaxFlightId + 1),
		"Next above MaxFlightId, with flights": beyond,
		"Next least":                           netOf(math.MinInt),
		"Next greatest":                        netOf(math.MaxInt),
		"more than MaxFlights":                 many,
		"far more than MaxFlights":             netWith(5000),
		"an Id that is Next":                   short,
		"two Ids alike":                        alike,
		"two flights alike":                    twice,
		"a flight where Next is 0":             netOf(0, fl(0, 0, 1, "", 0)),
	}
	_, wrong := edgeFlights()
	for i, f := range wrong {
		nets["a wrong flight "+string(rune('a'+i))] = netOf(5, f)
	}
	return nets
}

func TestNetOkAtItsLimits(t *testing.T) {
	last := fl(impl.MaxFlightId-1, 0, 1, "", 0)
	all := netWith(impl.MaxFlights)
	all.Next = impl.MaxFlightId
	right := []impl.Net{
		{},
		{List: []impl.Flight{}},
		netOf(1),
		netOf(impl.MaxFlightId),
		netOf(1, fl(0, 0, 1, "", 0)),
		netOf(impl.MaxFlightId, last, fl(0, 0, 1, "", 0)),
		netWith(1),
		netWith(impl.MaxFlights - 1),
		netWith(impl.MaxFlights),
		all,
		// All alike but for the Id.
		netOf(3, fl(2, 1, 1, "x", 4), fl(0, 1, 1, "x", 4), fl(1, 1, 1, "x", 4)),
	}
	for _, n := range right {
		if !impl.NetOk(n) || !wantNetOk(n) {
			t.Errorf("%#v is not NetOk", n)
		}
	}
	for name, n := range wrongNets() {
		if impl.NetOk(n) || wantNetOk(n) {
			t.Errorf("%s: it is NetOk", name)
		}
	}
}

// A flight at its limits, and one beyond, is told at every place of a net among flights that are right.
func TestNetOkOfEachFlight(t *testing.T) {
	right, wrong := edgeFlights()
	others := []impl.Flight{fl(1, 0, 1, "o", 8), fl(3, 2, 5, "p", 6)}
	for place := range len(others) + 1 {
		for _, f := range right {
			n := netOf(5, slices.Insert(slices.Clone(others), place, f)...)
			if !impl.NetOk(n) || !wantNetOk(n) {
				t.Errorf("%#v is not NetOk", n)
			}
		}
		for _, f := range wrong {
			n := netOf(5, slices.Insert(slices.Clone(others), place, f)...)
			if impl.NetOk(n) || wantNetOk(n) {
				t.Errorf("%#v is NetOk", n)
			}
		}
	}
}

func TestNetOkOfIdsAlikeAtAnyTwoPlaces(t *testing.T) {
	for i := range impl.MaxFlights {
		for j := range impl.MaxFlights {
			n := netWith(impl.MaxFlights)
			n.List[i].Id = n.List[j].Id
			if impl.NetOk(n) != (i == j) {
				t.Fatalf("the Ids at %d and %d are alike", i, j)
			}
		}
	}
}

func TestSendAtItsLimits(t *testing.T) {
	right, wrong := edgeFlights()
	for _, n := range []impl.Net{{}, netWith(1), netWith(7)} {
		for _, f := range right {
			want := f
			want.Id = n.Next
			checkSend(t, n, f, netAnswer{netOf(n.Next+1, append(slices.Clone(n.List), want)...), impl.NetDone})
		}
		for _, f := range wrong {
			// NetSend gives the Id itself, so that an Id can't be wrong.
			if f.Id == 0 {
				checkSend(t, n, f, netAnswer{code: impl.NetBad})
			}
		}
	}
}

func TestSendOfManyAndOfTheLast(t *testing.T) {
	n := impl.Net{}
	var list []impl.Flight
	for i := range impl.MaxFlights {
		f := fl(i, i%8, i%3, strings.Repeat("m", i), 2*i)
		list = append(list, f)
		more, code := impl.NetSend(n, f.From, f.To, f.Bytes, f.At)
		checkNet(t, "NetSend", more, code, netAnswer{netOf(i+1, list...), impl.NetDone})
		n = more
	}
	checkSend(t, n, fl(0, 1, 2, "more", 3), netAnswer{n, impl.NetFull})
	// Next alone makes a net full, with no flight under way as well.
	checkSend(t, netOf(impl.MaxFlightId), fl(0, 1, 2, "more", 3), netAnswer{netOf(impl.MaxFlightId), impl.NetFull})
	last := netOf(impl.MaxFlightId-1, fl(5, 1, 2, "there", 3))
	sent := netOf(impl.MaxFlightId, fl(5, 1, 2, "there", 3), fl(impl.MaxFlightId-1, 1, 2, "more", 3))
	checkSend(t, last, fl(0, 1, 2, "more", 3), netAnswer{sent, impl.NetDone})
	checkSend(t, sent, fl(0, 1, 2, "more", 3), netAnswer{sent, impl.NetFull})
}

func fullNets() []impl.Net {
	noId := netWith(3)
	noId.Next = impl.MaxFlightId
	both := netWith(impl.MaxFlights)
	both.Next = impl.MaxFlightId
	return []impl.Net{noId, netWith(impl.MaxFlights), both}
}

// What is sent wrong is NetBad ahead of NetFull; a place that is none is NetNone ahead of NetFull.
func TestNetTellsTheFirstCodeThatApplies(t *testing.T) {
	_, wrong := edgeFlights()
	for _, n := range fullNets() {
		checkSend(t, n, fl(0, 1, 2, "", 0), netAnswer{n, impl.NetFull})
		for _, f := range wrong {
			if f.Id == 0 {
				checkSend(t, n, f, netAnswer{code: impl.NetBad})
			}
		}
		for _, i := range []int{math.MinInt, -1, len(n.List), math.MaxInt} {
			net, code := impl.NetDouble(n, i)
			checkNet(t, "NetDouble", net, code, netAnswer{n, impl.NetNone})
		}
		for i := range n.List {
			net, code := impl.NetDouble(n, i)
			checkNet(t, "NetDouble", net, code, netAnswer{n, impl.NetFull})
		}
	}
}

// A net that is none is told ahead of all else, with zero values beside the code.
func TestWrongNetsAreRefused(t *testing.T) {
	bad := netAnswer{code: impl.NetBad}
	_, wrong := edgeFlights()
	for name, n := range wrongNets() {
		checkSend(t, n, fl(0, 1, 2, "x", 3), bad)
		checkSend(t, n, wrong[5], bad)
		for _, i := range []int{math.MinInt, -1, 0, len(n.List) - 1, len(n.List), math.MaxInt} {
			checkTake(t, n, i, takeAnswer{code: impl.NetBad})
			net, code := impl.NetDrop(n, i)
			checkNet(t, "NetDrop: "+name, net, code, bad)
			net, code = impl.NetDouble(n, i)
			checkNet(t, "NetDouble: "+name, net, code, bad)
			for _, to := range []int{math.MinInt, -1, 0, len(n.List), math.MaxInt} {
				net, code = impl.NetMove(n, i, to)
				checkNet(t, "NetMove: "+name, net, code, bad)
			}
		}
		if at := impl.NetOldest(n); at != -1 {
			t.Errorf("%s: NetOldest is %d", name, at)
		}
		for node := -1; node <= impl.MaxNodes; node++ {
			if places := impl.NetFor(n, node); len(places) != 0 {
				t.Errorf("%s: NetFor(%d) is %v", name, node, places)
			}
			if left := impl.NetCut(n, node); !sameNet(left, impl.Net{}) {
				t.Errorf("%s: NetCut(%d) is %#v", name, node, left)
			}
		}
	}
}

func TestTakeDropDoubleOfThree(t *testing.T) {
	a, b, c := fl(4, 0, 1, "a", 9), fl(0, 1, 2, "b", 3), fl(6, 2, 2, "c", 3)
	n := netOf(8, a, b, c)
	lefts := [][]impl.Flight{{b, c}, {a, c}, {a, b}}
	for i, f := range n.List {
		left := netOf(8, lefts[i]...)
		checkTake(t, n, i, takeAnswer{left, f, impl.NetDone})
		net, code := impl.NetDrop(n, i)
		checkNet(t, "NetDrop", net, code, netAnswer{left, impl.NetDone})
		double := f
		double.Id = 8
		net, code = impl.NetDouble(n, i)
		checkNet(t, "NetDouble", net, code, netAnswer{netOf(9, a, b, c, double), impl.NetDone})
	}
	for _, i := range []int{math.MinInt, -1, 3, math.MaxInt} {
		checkTake(t, n, i, takeAnswer{n, impl.Flight{}, impl.NetNone})
		net, code := impl.NetDrop(n, i)
		checkNet(t, "NetDrop", net, code, netAnswer{n, impl.NetNone})
		net, code = impl.NetDouble(n, i)
		checkNet(t, "NetDouble", net, code, netAnswer{n, impl.NetNone})
	}
	checkTake(t, netOf(7, a), 0, takeAnswer{netOf(7), a, impl.NetDone})
	checkTake(t, netOf(7), 0, takeAnswer{netOf(7), impl.Flight{}, impl.NetNone})
}

func TestDoubleAtItsLimits(t *testing.T) {
	n := netWith(impl.MaxFlights - 1)
	double := n.List[4]
	double.Id = n.Next
	net, code := impl.NetDouble(n, 4)
	checkNet(t, "NetDouble", net, code, netAnswer{netOf(n.Next+1, append(slices.Clone(n.List), double)...), impl.NetDone})
	full, code := impl.NetDouble(net, 4)
	checkNet(t, "NetDouble", full, code, netAnswer{net, impl.NetFull})
	last := netOf(impl.MaxFlightId-1, fl(0, 3, 3, "l", far))
	twice := netOf(impl.MaxFlightId, fl(0, 3, 3, "l", far), fl(impl.MaxFlightId-1, 3, 3, "l", far))
	net, code = impl.NetDouble(last, 0)
	checkNet(t, "NetDouble", net, code, netAnswer{twice, impl.NetDone})
	net, code = impl.NetDouble(twice, 1)
	checkNet(t, "NetDouble", net, code, netAnswer{twice, impl.NetFull})
}

func TestMoveOfThree(t *testing.T) {
	a, b, c := fl(4, 0, 1, "a", 9), fl(0, 1, 2, "b", 3), fl(6, 2, 2, "c", 3)
	n := netOf(8, a, b, c)
	want := [3][3][]impl.Flight{
		{{a, b, c}, {b, a, c}, {b, c, a}},
		{{b, a, c}, {a, b, c}, {a, c, b}},
		{{c, a, b}, {a, c, b}, {a, b, c}},
	}
	for i := range 3 {
		for to := range 3 {
			net, code := impl.NetMove(n, i, to)
			checkNet(t, "NetMove", net, code, netAnswer{netOf(8, want[i][to]...), impl.NetDone})
		}
		for _, none := range []int{math.MinInt, -1, 3, math.MaxInt} {
			net, code := impl.NetMove(n, i, none)
			checkNet(t, "NetMove", net, code, netAnswer{n, impl.NetNone})
			net, code = impl.NetMove(n, none, i)
			checkNet(t, "NetMove", net, code, netAnswer{n, impl.NetNone})
			net, code = impl.NetMove(n, none, none)
			checkNet(t, "NetMove", net, code, netAnswer{n, impl.NetNone})
		}
	}
	// A move is no send: a full net may be moved in.
	for _, full := range fullNets() {
		last := len(full.List) - 1
		net, code := impl.NetMove(full, last, 0)
		checkNet(t, "NetMove", net, code, netAnswer{netOf(full.Next, append([]impl.Flight{full.List[last]}, full.List[:last]...)...), impl.NetDone})
	}
	net, code := impl.NetMove(netOf(3), 0, 0)
	checkNet(t, "NetMove", net, code, netAnswer{netOf(3), impl.NetNone})
}

func TestForAndCutOfNodes(t *testing.T) {
	a, b, c, d := fl(4, 0, 1, "a", 9), fl(0, 1, 2, "b", 3), fl(6, 2, 2, "c", 3), fl(1, 7, 0, "d", 5)
	n := netOf(8, a, b, c, d)
	cases := []struct {
		node  int
		to    []int
		apart []impl.Flight
	}{
		{0, []int{3}, []impl.Flight{b, c}},
		{1, []int{0}, []impl.Flight{c, d}},
		{2, []int{1, 2}, []impl.Flight{a, d}},
		{3, nil, n.List},
		{7, nil, []impl.Flight{a, b, c}},
		{-1, nil, n.List},
		{impl.MaxNodes, nil, n.List},
		{math.MinInt, nil, n.List},
		{math.MaxInt, nil, n.List},
	}
	for _, k := range cases {
		if got := impl.NetFor(n, k.node); !slices.Equal(got, k.to) {
			t.Errorf("NetFor(%d) is %v", k.node, got)
		}
		if got := impl.NetCut(n, k.node); !sameNet(got, netOf(8, k.apart...)) {
			t.Errorf("NetCut(%d) is %#v", k.node, got)
		}
		if got := impl.NetFor(netOf(8), k.node); len(got) != 0 {
			t.Errorf("NetFor of no flight is %v", got)
		}
		if got := impl.NetCut(netOf(8), k.node); !sameNet(got, netOf(8)) {
			t.Errorf("NetCut of no flight is %#v", got)
		}
	}
	all := netOf(9, fl(3, 5, 1, "", 0), fl(4, 2, 5, "", 0), fl(5, 5, 5, "", 0))
	if got := impl.NetCut(all, 5); !sameNet(got, netOf(9)) {
		t.Errorf("NetCut of all is %#v", got)
	}
}

func TestOldestOfSeveral(t *testing.T) {
	cases := []struct {
		ats  []int
		want int
	}{
		{nil, -1},
		{[]int{0}, 0},
		{[]int{far}, 0},
		{[]int{far, far - 1}, 1},
		{[]int{far - 1, far}, 0},
		{[]int{5, 5, 5}, 0},
		{[]int{6, 5, 5, 7}, 1},
		{[]int{6, 5, 4, 4, 5}, 2},
		{[]int{0, 1, 0}, 0},
		{[]int{1, 0, 0}, 1},
		{[]int{far, far, 0}, 2},
	}
	for _, c := range cases {
		n := netOf(len(c.ats))
		for i, at := range c.ats {
			// The least Id stands last, so that the place counts and not the Id.
			n.List = append(n.List, fl(len(c.ats)-1-i, i, 7, "", at))
		}
		if got := impl.NetOldest(n); got != c.want || wantOldest(n) != c.want {
			t.Errorf("NetOldest of %v is %d", c.ats, got)
		}
	}
}

func checkNetFunctions(t *testing.T, n impl.Net, places []int) {
	t.Helper()
	if impl.NetOk(n) != wantNetOk(n) {
		t.Fatalf("NetOk(%#v) is %v", n, !wantNetOk(n))
	}
	if got := impl.NetOldest(n); got != wantOldest(n) {
		t.Fatalf("NetOldest(%#v) is %d", n, got)
	}
	for _, i := range places {
		checkTake(t, n, i, wantTake(n, i))
		net, code := impl.NetDrop(n, i)
		checkNet(t, "NetDrop", net, code, wantDrop(n, i))
		net, code = impl.NetDouble(n, i)
		checkNet(t, "NetDouble", net, code, wantDouble(n, i))
		for _, to := range places {
			net, code = impl.NetMove(n, i, to)
			checkNet(t, "NetMove", net, code, wantMove(n, i, to))
		}
	}
	for _, node := range []int{math.MinInt, -1, 0, 1, 2, 3, 4, 5, 6, 7, 8, math.MaxInt} {
		if got := impl.NetFor(n, node); !slices.Equal(got, wantFor(n, node)) {
			t.Fatalf("NetFor(%#v, %d) is %v", n, node, got)
		}
		if got := impl.NetCut(n, node); !sameNet(got, wantCut(n, node)) {
			t.Fatalf("NetCut(%#v, %d) is %#v", n, node, got)
		}
		for _, other := range []int{-1, 0, 7, 8} {
			checkSend(t, n, fl(0, node, other, "s", 4), wantSend(n, node, other, "s", 4))
			checkSend(t, n, fl(0, other, node, "", far), wantSend(n, other, node, "", far))
		}
	}
}

// Every function at every net of up to three flights out of a few, right and wrong mixed.
func TestNetsAgainstTheModel(t *testing.T) {
	flights := []impl.Flight{
		fl(0, 0, 1, "a", 3), fl(1, 1, 0, "b", 3), fl(2, 2, 2, "c", 0), fl(3, 7, 1, "", far),
		fl(1, 0, 7, "x", 2), fl(-1, 0, 1, "", 0), fl(0, 8, 1, "", 0), fl(2, 1, 1, "", -1),
	}
	kinds := len(flights)
	nexts := []int{-1, 0, 1, 2, 3, 4, impl.MaxFlightId - 1, impl.MaxFlightId, impl.MaxFlightId + 1}
	for code := range kinds * kinds * kinds {
		list := []impl.Flight{flights[code%kinds], flights[code/kinds%kinds], flights[code/kinds/kinds]}
		for _, next := range nexts {
			checkNetFunctions(t, netOf(next, list...), []int{-1, 0, 1, 2, 3})
			if code < kinds*kinds {
				checkNetFunctions(t, netOf(next, list[:2]...), []int{-1, 0, 1, 2})
			}
			if code < kinds {
				checkNetFunctions(t, netOf(next, list[:1]...), []int{-1, 0, 1})
			}
		}
	}
}

func TestNetsOfAnyLengthAgainstTheModel(t *testing.T) {
	for flights := range impl.MaxFlights + 3 {
		n := netWith(flights)
		if impl.NetOk(n) != (flights <= impl.MaxFlights) {
			t.Fatalf("%d flights", flights)
		}
		checkNetFunctions(t, n, placesOf(n))
	}
}
