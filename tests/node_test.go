package tests

import (
	"math"
	"slices"
	"strings"
	"testing"

	"loop.example/g00072/impl"
)

func checkCfgOk(t *testing.T, c impl.Cfg, want bool) {
	t.Helper()
	if got := impl.CfgOk(c); got != want || wantCfgOk(c) != want {
		t.Fatalf("CfgOk(%v) is %v", c, got)
	}
}

func checkNodeOk(t *testing.T, n impl.Node, want bool) {
	t.Helper()
	if got := impl.NodeOk(n); got != want || wantNodeOk(n) != want {
		t.Fatalf("NodeOk(%v) is %v", n, got)
	}
}

func checkNodeCall(t *testing.T, q nodeCall, n impl.Node, want nodeAnswer) {
	t.Helper()
	if got := q.of(n); !sameNodeAnswer(got, want) {
		t.Fatalf("%s of %v by %v:\ngot  %v\nwant %v", callName(q.kind), n, q, got, want)
	}
	if own := q.want(n); !sameNodeAnswer(own, want) {
		t.Fatalf("%s of %v by %v: the document read again tells %v, and not %v", callName(q.kind), n, q, own, want)
	}
}

// Refused with that code, and left as it was.
func checkLeft(t *testing.T, q nodeCall, n impl.Node, code int) {
	t.Helper()
	checkNodeCall(t, q, n, leftAs(n, code))
}

func checkBad(t *testing.T, q nodeCall, n impl.Node) {
	t.Helper()
	checkNodeCall(t, q, n, nodeAnswer{code: impl.NodeBad})
}

// Done, and nothing told but the node.
func checkBecomes(t *testing.T, q nodeCall, n impl.Node, then impl.Node) {
	t.Helper()
	checkNodeCall(t, q, n, nodeAnswer{n: then})
}

func checkNodeTrue(t *testing.T, c impl.Cfg, n impl.Node, count, time int, want bool) {
	t.Helper()
	if got := impl.NodeTrue(c, n, count, time); got != want || wantNodeTrue(c, n, count, time) != want {
		t.Fatalf("NodeTrue(%v, %v, %d, %d) is %v", c, n, count, time, got)
	}
}

func TestCodesOfNodes(t *testing.T) {
	codes := []int{
		impl.NodeDone, impl.NodeBad, impl.NodeOff, impl.NodeApart, impl.NodeSpent, impl.NodeFull, impl.NodeWire, impl.NodeFrom,
		impl.NodeUnsure, impl.NodeNonce, impl.NodeOver, impl.NodeFew, impl.NodeNone, impl.NodeBusy, impl.NodeNot,
	}
	for i, code := range codes {
		if code != i {
			t.Errorf("the code at %d is %d", i, code)
		}
	}
}

func TestCfgOkAtItsLimits(t *testing.T) {
	checkCfgOk(t, still(), true)
	for _, lie := range []int{0, 1, impl.MaxNodes - 1, impl.MaxNodes} {
		checkCfgOk(t, cfgWith(func(c *impl.Cfg) { c.Lie = lie }), true)
	}
	// As many may lie as are wanted at least, or more: then no fusion comes, but the settings are right.
	for _, least := range []int{1, 2, impl.MaxNodes - 1, impl.MaxNodes} {
		checkCfgOk(t, cfgWith(func(c *impl.Cfg) { c.Least = least }), true)
		checkCfgOk(t, cfgWith(func(c *impl.Cfg) { c.Lie, c.Least = impl.MaxNodes, least }), true)
	}
	for _, count := range []int{0, 1, far - 1, far} {
		checkCfgOk(t, cfgWith(func(c *impl.Cfg) { c.Patience = count }), true)
		checkCfgOk(t, cfgWith(func(c *impl.Cfg) { c.Age = count }), true)
		checkCfgOk(t, cfgWith(func(c *impl.Cfg) { c.Keep = count }), true)
	}
	for _, long := range []int{1, 2, impl.MaxLong - 1, impl.MaxLong} {
		checkCfgOk(t, cfgWith(func(c *impl.Cfg) { c.Long = long }), true)
	}
	for _, d := range rightDrifts() {
		checkCfgOk(t, drifting(d), true)
	}
	for _, p := range rightPlans() {
		checkCfgOk(t, cfgWith(func(c *impl.Cfg) { c.Plan = p }), true)
	}
	for name, c := range wrongCfgs() {
		if impl.CfgOk(c) || wantCfgOk(c) {
			t.Errorf("%s: it is CfgOk", name)
		}
	}
}

func TestNodeOkAtItsLimits(t *testing.T) {
	for name, n := range rightNodes() {
		if !impl.NodeOk(n) || !wantNodeOk(n) {
			t.Errorf("%s: it is not NodeOk", name)
		}
	}
	for name, n := range wrongNodes() {
		if impl.NodeOk(n) || wantNodeOk(n) {
			t.Errorf("%s: it is NodeOk", name)
		}
	}
}

// Who is down may have been so in any epoch and since any count, and has nothing besides.
func TestNodeOkWhileDown(t *testing.T) {
	for _, epoch := range []int{0, 1, 3, impl.MaxEpoch} {
		for _, since := range []int{0, 20, far} {
			checkNodeOk(t, impl.Node{Id: 5, Life: lf(inDown, epoch, since), Table: tableOf(epoch, 0), Sent: -1}, true)
		}
	}
	for _, n := range somethingWhileDown() {
		checkNodeOk(t, n, false)
		// What is wrong of who is down alone is right of who is cold, but for what is known.
		up := nodeWith(n, func(n *impl.Node) { n.Life.Mode = inCold })
		checkNodeOk(t, up, !n.Local.Known)
	}
}

// Peers and asks of all other nodes, one at a time, and of itself.
func TestNodeOkNamesNotItself(t *testing.T) {
	for id := range impl.MaxNodes {
		for other := range impl.MaxNodes {
			n := impl.Node{Id: id, Life: lf(inCold, 3, 20), Table: tableOf(3, 2), Sent: -1}
			n.Peers = peers(pe(other, 3, 7, 5))
			checkNodeOk(t, n, id != other)
			n.Peers, n.Table = nil, tableOf(3, 2, ak(3001, other, 5, 1))
			checkNodeOk(t, n, id != other)
		}
		full := impl.Node{Id: id, Life: lf(inCold, 3, 20), Table: tableOf(3, 0), Peers: peersWith(impl.MaxNodes), Sent: -1}
		checkNodeOk(t, full, false)
		full.Peers = slices.DeleteFunc(full.Peers, func(p impl.Peer) bool { return p.Id == id })
		checkNodeOk(t, full, true)
	}
}

func TestNewNode(t *testing.T) {
	for id := range impl.MaxNodes {
		n := impl.NewNode(id)
		if want := (impl.Node{Id: id, Sent: -1}); !sameNode(n, want) || !impl.NodeOk(n) {
			t.Errorf("NewNode(%d) is %v", id, n)
		}
	}
	for _, id := range noNodes() {
		if n := impl.NewNode(id); !sameNode(n, impl.Node{}) || impl.NodeOk(n) {
			t.Errorf("NewNode(%d) is %v", id, n)
		}
	}
}

// What is bad comes ahead of all else: each wrong node and each wrong setting, in each call.
func TestCallsOfWhatIsBad(t *testing.T) {
	for _, q := range callsDone() {
		for _, n := range wrongNodes() {
			checkBad(t, q, n)
		}
		for _, c := range wrongCfgs() {
			if !q.hasCfg() {
				break
			}
			wrong := q
			wrong.c = c
			for _, mode := range allModes() {
				checkBad(t, wrong, fullNode(mode))
			}
		}
	}
}

// A call is refused at each count that is none, and at those that the node has not come to: each count that it keeps by itself is the last one.
func TestCallsOfWhoHasNotCome(t *testing.T) {
	last := map[string]func(n *impl.Node, at int){
		"since":            func(n *impl.Node, at int) { n.Life.Since = at },
		"known":            func(n *impl.Node, at int) { n.Local.At = at },
		"the first ask":    func(n *impl.Node, at int) { n.Table.Asks[0].At = at },
		"the last ask":     func(n *impl.Node, at int) { n.Table.Asks[2].At = at },
		"the first peer":   func(n *impl.Node, at int) { n.Peers[0].At = at },
		"a peer between":   func(n *impl.Node, at int) { n.Peers[1].At = at },
		"the last peer":    func(n *impl.Node, at int) { n.Peers[2].At = at },
		"first heard":      func(n *impl.Node, at int) { n.Heard[0].At = at },
		"last heard":       func(n *impl.Node, at int) { n.Heard[2].At = at },
		"the last frame":   func(n *impl.Node, at int) { n.Sent = at },
		"nothing, till 26": func(n *impl.Node, at int) {},
	}
	for name, put := range last {
		for _, at := range []int{60, far - 1, far} {
			n := nodeWith(fullNode(inSync), func(n *impl.Node) { put(n, at) })
			from := at
			if name == "nothing, till 26" {
				from = 26
			}
			for _, q := range callsDone() {
				for _, count := range []int{from - 1, 25, 0, -1, far + 1, math.MinInt, math.MaxInt} {
					q.count = count
					checkBad(t, q, n)
				}
				for _, count := range []int{from, min(from+1, far), far} {
					q.count = count
					if got := q.of(n); got.code == impl.NodeBad || !sameNodeAnswer(got, q.want(n)) {
						t.Fatalf("%s, %s at %d: %v", name, callName(q.kind), count, got)
					}
				}
			}
		}
	}
	// Who is down has its life alone to come to.
	for _, q := range callsDone() {
		q.count = 19
		checkBad(t, q, nodeIn(inDown))
	}
}

// What is wrong with the call's other arguments is bad in every mode, so also ahead of NodeOff, and whatever else would be refused.
func TestCallsThatDoNotFit(t *testing.T) {
	for _, q := range unfitCalls() {
		for _, mode := range allModes() {
			checkBad(t, q, nodeIn(mode))
			checkBad(t, q, fullNode(mode))
		}
		spent := nodeWith(fullNode(inSync), func(n *impl.Node) { n.Table.Used, n.Sent = impl.NoncesEach, 30 })
		checkBad(t, q, spent)
	}
}

// Who is down does nothing but boot; of what it knows it is unsure, and so it is not false.
func TestCallsOfWhoIsDown(t *testing.T) {
	for _, n := range []impl.Node{impl.NewNode(0), nodeIn(inDown), nodeWith(nodeIn(inDown), func(n *impl.Node) { n.Life.Since = 30 })} {
		for _, q := range callsDone() {
			switch q.kind {
			case toBoot:
				checkBecomes(t, q, n, impl.Node{Life: lf(inCold, n.Life.Epoch+1, 30), Table: tableOf(n.Life.Epoch+1, 0), Sent: 30})
			case toNow:
				checkNodeCall(t, q, n, nodeAnswer{code: impl.NodeUnsure})
			default:
				checkLeft(t, q, n, impl.NodeOff)
			}
		}
		checkNodeTrue(t, still(), n, 30, 5, true)
	}
	// Ahead of all that is refused of who is up: no message, from itself, and one that is its own.
	for _, b := range [][]byte{nil, []byte("none"), wantPack(probe(4, 0, 7)), wantPack(probe(3, 1, 7)), wantPack(frame(5, 0, ""))} {
		checkLeft(t, nodeCall{kind: toGet, c: still(), count: 30, other: 3, b: b}, nodeIn(inDown), impl.NodeOff)
		checkLeft(t, nodeCall{kind: toGet, c: still(), count: 30, other: 0, b: b}, nodeIn(inDown), impl.NodeOff)
	}
}

func TestNodeBoot(t *testing.T) {
	boot := nodeCall{kind: toBoot, count: 30}
	checkBecomes(t, boot, impl.NewNode(6), impl.Node{Id: 6, Life: lf(inCold, 1, 30), Table: tableOf(1, 0), Sent: 30})
	checkBecomes(t, boot, nodeIn(inDown), impl.Node{Life: lf(inCold, 4, 30), Table: tableOf(4, 0), Sent: 30})
	// At the count of the crash, and at both ends of all counts.
	checkBecomes(t, nodeCall{kind: toBoot, count: 20}, nodeIn(inDown), impl.Node{Life: lf(inCold, 4, 20), Table: tableOf(4, 0), Sent: 20})
	checkBecomes(t, nodeCall{kind: toBoot, count: 0}, impl.NewNode(7), impl.Node{Id: 7, Life: lf(inCold, 1, 0), Table: tableOf(1, 0)})
	checkBecomes(t, nodeCall{kind: toBoot, count: far}, nodeIn(inDown), impl.Node{Life: lf(inCold, 4, far), Table: tableOf(4, 0), Sent: far})
	for _, mode := range []int{inCold, inSync, inHold} {
		checkLeft(t, boot, nodeIn(mode), impl.NodeNot)
		checkLeft(t, boot, fullNode(mode), impl.NodeNot)
	}
}

// Out of the last epoch no boot comes; that it is not down is told first.
func TestNodeBootInTheLastEpoch(t *testing.T) {
	inEpoch := func(mode, epoch int) impl.Node {
		return nodeWith(nodeIn(mode), func(n *impl.Node) { n.Life.Epoch, n.Table.Epoch = epoch, epoch })
	}
	boot := nodeCall{kind: toBoot, count: 30}
	checkLeft(t, boot, inEpoch(inDown, impl.MaxEpoch), impl.NodeSpent)
	checkBecomes(t, boot, inEpoch(inDown, impl.MaxEpoch-1), impl.Node{Life: lf(inCold, impl.MaxEpoch, 30), Table: tableOf(impl.MaxEpoch, 0), Sent: 30})
	for _, mode := range []int{inCold, inSync, inHold} {
		checkLeft(t, boot, inEpoch(mode, impl.MaxEpoch), impl.NodeNot)
	}
	// The last nonces of all are those of the last epoch.
	n := nodeWith(inEpoch(inCold, impl.MaxEpoch), func(n *impl.Node) { n.Table.Used = impl.NoncesEach - 1 })
	then := nodeWith(n, func(n *impl.Node) { n.Table = tableOf(impl.MaxEpoch, impl.NoncesEach, ak(impl.MaxNonce, 3, 30, 1)) })
	checkNodeCall(t, nodeCall{kind: toAsk, c: still(), count: 30, other: 3}, n, nodeAnswer{n: then, m: probe(0, 3, impl.MaxNonce)})
}

func TestNodeCrash(t *testing.T) {
	for _, mode := range []int{inCold, inSync, inHold} {
		for _, n := range []impl.Node{nodeIn(mode), fullNode(mode)} {
			for _, count := range []int{26, 30, far} {
				checkBecomes(t, nodeCall{kind: toCrash, count: count}, n, impl.Node{Life: lf(inDown, 3, count), Table: tableOf(3, 0), Sent: -1})
			}
		}
		last := nodeWith(nodeIn(mode), func(n *impl.Node) { n.Id, n.Life.Epoch, n.Table.Epoch = 7, impl.MaxEpoch, impl.MaxEpoch })
		checkBecomes(t, nodeCall{kind: toCrash, count: 20}, last, impl.Node{Id: 7, Life: lf(inDown, impl.MaxEpoch, 20), Table: tableOf(impl.MaxEpoch, 0), Sent: -1})
	}
	checkLeft(t, nodeCall{kind: toCrash, count: 30}, nodeIn(inDown), impl.NodeOff)
}

func TestNodeNow(t *testing.T) {
	for _, mode := range []int{inDown, inCold} {
		checkNodeCall(t, nodeCall{kind: toNow, c: still(), count: 30}, fullNode(mode), nodeAnswer{code: impl.NodeUnsure})
	}
	for _, mode := range []int{inSync, inHold} {
		checkNodeCall(t, nodeCall{kind: toNow, c: still(), count: 20}, nodeIn(mode), nodeAnswer{now: iv(100, 104)})
		checkNodeCall(t, nodeCall{kind: toNow, c: still(), count: 30}, nodeIn(mode), nodeAnswer{now: iv(110, 114)})
		checkNodeCall(t, nodeCall{kind: toNow, c: drifting(dr(1, 2)), count: 32}, nodeIn(mode), nodeAnswer{now: iv(108, 128)})
		// However wide it is beside Keep.
		checkNodeCall(t, nodeCall{kind: toNow, c: cfgWith(func(c *impl.Cfg) { c.Keep = 0 }), count: 30}, fullNode(mode), nodeAnswer{now: iv(110, 114)})
	}
}

// Beyond the last time: by the bound, or by what the counts may have taken.
func TestNodeNowAtTheEndOfTime(t *testing.T) {
	n := nodeWith(nodeIn(inSync), func(n *impl.Node) { n.Local = loc(far-12, far-10, 20) })
	checkNodeCall(t, nodeCall{kind: toNow, c: still(), count: 30}, n, nodeAnswer{now: iv(far-2, far)})
	checkNodeCall(t, nodeCall{kind: toNow, c: still(), count: 31}, n, nodeAnswer{code: impl.NodeOver})
	n.Local = loc(-far, -far, 0)
	checkNodeCall(t, nodeCall{kind: toNow, c: drifting(dr(1, 2)), count: far / 2}, n, nodeAnswer{now: iv(-far+(far+2)/3, 0)})
	checkNodeCall(t, nodeCall{kind: toNow, c: drifting(dr(1, 2)), count: far/2 + 1}, n, nodeAnswer{code: impl.NodeOver})
}

func TestNodeFix(t *testing.T) {
	fix := func(lo, hi int) nodeCall { return nodeCall{kind: toFix, c: still(), count: 30, a: iv(lo, hi)} }
	becomes := func(mode, lo, hi int) impl.Node {
		since := 30
		if mode == inSync {
			since = 20
		}
		return nodeWith(fullNode(mode), func(n *impl.Node) { n.Life, n.Local = lf(inSync, 3, since), loc(lo, hi, 30) })
	}
	// Who is cold believes it as it is.
	for _, a := range rightSources() {
		checkBecomes(t, fix(a.Lo, a.Hi), fullNode(inCold), becomes(inCold, a.Lo, a.Hi))
	}
	// Who knows that it is 110 to 114 narrows that by it, and is synchronised, whether it was or not.
	for _, mode := range []int{inSync, inHold} {
		checkBecomes(t, fix(111, 113), fullNode(mode), becomes(mode, 111, 113))
		checkBecomes(t, fix(100, 112), fullNode(mode), becomes(mode, 110, 112))
		checkBecomes(t, fix(112, 200), fullNode(mode), becomes(mode, 112, 114))
		checkBecomes(t, fix(114, 114), fullNode(mode), becomes(mode, 114, 114))
		checkBecomes(t, fix(0, 110), fullNode(mode), becomes(mode, 110, 110))
		checkBecomes(t, fix(-far, far), fullNode(mode), becomes(mode, 110, 114))
		for _, a := range []impl.Ival{iv(115, 120), iv(0, 109), iv(far, far), iv(-far, -far)} {
			checkLeft(t, fix(a.Lo, a.Hi), fullNode(mode), impl.NodeApart)
		}
	}
}

// That nothing can be carried on is told first, also where it would be apart.
func TestNodeFixAtTheEndOfTime(t *testing.T) {
	for _, mode := range []int{inSync, inHold} {
		n := nodeWith(fullNode(mode), func(n *impl.Node) { n.Local = loc(far-12, far-9, 20) })
		for _, a := range []impl.Ival{iv(0, 5), iv(far-2, far), iv(-far, far)} {
			checkLeft(t, nodeCall{kind: toFix, c: still(), count: 30, a: a}, n, impl.NodeOver)
		}
		then := nodeWith(n, func(n *impl.Node) { n.Local = loc(far-1, far, 29) })
		then.Life = wantLifeStep(n.Life, ev(impl.EvLearn, 29)).l
		checkBecomes(t, nodeCall{kind: toFix, c: still(), count: 29, a: iv(far-1, far)}, n, then)
	}
	// Who knows nothing has nothing to carry on.
	cold := nodeWith(nodeIn(inCold), func(n *impl.Node) { n.Life.Since = 0 })
	then := nodeWith(cold, func(n *impl.Node) { n.Life, n.Local = lf(inSync, 3, far), loc(far, far, far) })
	checkBecomes(t, nodeCall{kind: toFix, c: drifting(dr(1, 2)), count: far, a: iv(far, far)}, cold, then)
}

func TestNodeAsk(t *testing.T) {
	for _, mode := range []int{inCold, inSync, inHold} {
		for other := 1; other < impl.MaxNodes; other++ {
			ask := nodeCall{kind: toAsk, c: still(), count: 30, other: other}
			n := fullNode(mode)
			then := nodeWith(n, func(n *impl.Node) { n.Table.Used, n.Table.Asks = 10, append(n.Table.Asks, ak(3009, other, 30, 1)) })
			checkNodeCall(t, ask, n, nodeAnswer{n: then, m: probe(0, other, 3009)})
			first := nodeWith(nodeIn(mode), func(n *impl.Node) { n.Table = tableOf(3, 1, ak(3000, other, 30, 1)) })
			checkNodeCall(t, ask, nodeIn(mode), nodeAnswer{n: first, m: probe(0, other, 3000)})
		}
	}
}

// Spent is told ahead of full; the last nonce and the last place are given out.
func TestNodeAskRefuses(t *testing.T) {
	ask := nodeCall{kind: toAsk, c: still(), count: 200, other: 3}
	for _, mode := range []int{inCold, inSync, inHold} {
		spent := nodeWith(fullNode(mode), func(n *impl.Node) { n.Table.Used = impl.NoncesEach })
		checkLeft(t, ask, spent, impl.NodeSpent)
		full := nodeWith(fullNode(mode), func(n *impl.Node) { n.Table = otherAsks(impl.MaxAsks) })
		checkLeft(t, ask, full, impl.NodeFull)
		full.Table.Used = impl.NoncesEach
		checkLeft(t, ask, full, impl.NodeSpent)
		almost := nodeWith(fullNode(mode), func(n *impl.Node) { n.Table = otherAsks(impl.MaxAsks - 1) })
		almost.Table.Used = impl.NoncesEach - 1
		then := nodeWith(almost, func(n *impl.Node) {
			n.Table.Used, n.Table.Asks = impl.NoncesEach, append(n.Table.Asks, ak(3999, 3, 200, 1))
		})
		checkNodeCall(t, ask, almost, nodeAnswer{n: then, m: probe(0, 3, 3999)})
		checkLeft(t, ask, then, impl.NodeSpent)
	}
}

// Asks that are older than Patience go; for each that has tries left one comes, with a probe, in order.
func TestNodeTickAsksAgain(t *testing.T) {
	n := fullNode(inCold)
	tick := func(count int) nodeCall { return nodeCall{kind: toTick, c: still(), count: count} }
	with := func(used int, asks ...impl.Ask) impl.Node {
		return nodeWith(n, func(n *impl.Node) { n.Table = tableOf(3, used, asks...) })
	}
	first, old, third := ak(3001, 1, 21, 1), ak(3004, 5, 25, 4), ak(3005, 1, 22, 3)
	checkNodeCall(t, tick(31), n, nodeAnswer{n: n})
	checkNodeCall(t, tick(32), n, nodeAnswer{n: with(10, old, third, ak(3009, 1, 32, 2)), list: []impl.Msg{probe(0, 1, 3009)}})
	both := []impl.Msg{probe(0, 1, 3009), probe(0, 1, 3010)}
	checkNodeCall(t, tick(33), n, nodeAnswer{n: with(11, old, ak(3009, 1, 33, 2), ak(3010, 1, 33, 4)), list: both})
	// The ask to 5 was its last try.
	checkNodeCall(t, tick(36), n, nodeAnswer{n: with(11, ak(3009, 1, 36, 2), ak(3010, 1, 36, 4)), list: both})
	// Of those that want a nonce the first gets the last one.
	n = with(impl.NoncesEach-1, first, old, third)
	checkNodeCall(t, tick(36), n, nodeAnswer{n: with(impl.NoncesEach, ak(3999, 1, 36, 2)), list: []impl.Msg{probe(0, 1, 3999)}})
	n = with(impl.NoncesEach, first, old, third)
	checkNodeCall(t, tick(36), n, nodeAnswer{n: with(impl.NoncesEach)})
	checkNodeCall(t, tick(35), n, nodeAnswer{n: with(impl.NoncesEach, old)})
}

// As many asks as may be, all of them late: as many probes, and the table is full as before.
func TestNodeTickAsksManyAgain(t *testing.T) {
	n := nodeWith(nodeIn(inCold), func(n *impl.Node) { n.Table = otherAsks(impl.MaxAsks) })
	for i := range n.Table.Asks {
		n.Table.Asks[i].Tries = 1 + i%3
	}
	then := nodeWith(n, func(n *impl.Node) {
		n.Table.Used += impl.MaxAsks
		for i := range n.Table.Asks {
			n.Table.Asks[i] = ak(3048+i, 1+i%7, 1000, 2+i%3)
		}
	})
	var list []impl.Msg
	for i := range impl.MaxAsks {
		list = append(list, probe(0, 1+i%7, 3048+i))
	}
	checkNodeCall(t, nodeCall{kind: toTick, c: still(), count: 1000}, n, nodeAnswer{n: then, list: list})
}

// Wider than Keep, not wider, and as wide: what that makes of who is synchronised and of who holds over.
func TestNodeTickHoldsOver(t *testing.T) {
	keep := func(most int) nodeCall {
		return nodeCall{kind: toTick, c: cfgWith(func(c *impl.Cfg) { c.Keep = most }), count: 30}
	}
	in := func(n impl.Node, mode int) impl.Node {
		return nodeWith(n, func(n *impl.Node) { n.Life = lf(mode, 3, 30) })
	}
	synced, holding, cold := nodeIn(inSync), nodeIn(inHold), nodeIn(inCold)
	for _, most := range []int{0, 1, 3} {
		checkBecomes(t, keep(most), synced, in(synced, inHold))
		checkBecomes(t, keep(most), holding, holding)
	}
	for _, most := range []int{4, 5, 8, far} {
		checkBecomes(t, keep(most), synced, synced)
		checkBecomes(t, keep(most), holding, in(holding, inSync))
	}
	for _, most := range []int{0, 4, far} {
		checkBecomes(t, keep(most), cold, cold)
	}
	// It is what is known at this count that is wide, and not what was known: by a drift of a half 10 counts are 7 to 20.
	wide := nodeCall{kind: toTick, c: cfgWith(func(c *impl.Cfg) { c.Drift, c.Keep = dr(1, 2), 16 }), count: 30}
	checkBecomes(t, wide, synced, in(synced, inHold))
	wide.c.Keep = 17
	checkBecomes(t, wide, synced, synced)
	checkBecomes(t, wide, holding, in(holding, inSync))
}

// Where nothing can be carried on any more it is lost, in both modes that know; and asks go again all the same.
func TestNodeTickLoses(t *testing.T) {
	for _, mode := range []int{inSync, inHold} {
		for _, most := range []int{0, 8, far} {
			n := nodeWith(fullNode(mode), func(n *impl.Node) { n.Local = loc(far-20, far-7, 20) })
			tick := nodeCall{kind: toTick, c: cfgWith(func(c *impl.Cfg) { c.Keep = most }), count: 32}
			then := nodeWith(n, func(n *impl.Node) {
				n.Life, n.Local = lf(inCold, 3, 32), impl.Local{}
				n.Table = tableOf(3, 10, n.Table.Asks[1], n.Table.Asks[2], ak(3009, 1, 32, 2))
			})
			checkNodeCall(t, tick, n, nodeAnswer{n: then, list: []impl.Msg{probe(0, 1, 3009)}})
			// Just not yet.
			tick.count = 27
			if got := tick.of(n); got.code != impl.NodeDone || !got.n.Local.Known || !sameNodeAnswer(got, tick.want(n)) {
				t.Fatalf("%v by %v: %v", n, tick, got)
			}
		}
	}
}

// Get at 30 by the still settings.
func gets(other int, b []byte) nodeCall {
	return nodeCall{kind: toGet, c: still(), count: 30, other: other, b: b}
}

func getsMsg(m impl.Msg) nodeCall { return gets(m.From, wantPack(m)) }

func TestNodeGetOfAProbe(t *testing.T) {
	for _, mode := range []int{inSync, inHold} {
		for from := 1; from < impl.MaxNodes; from++ {
			for _, nonce := range []int{0, 1, 3001, impl.MaxNonce} {
				n := fullNode(mode)
				checkNodeCall(t, getsMsg(probe(from, 0, nonce)), n, nodeAnswer{n: n, m: reply(0, from, nonce, iv(110, 114))})
			}
		}
		late := nodeWith(fullNode(mode), func(n *impl.Node) { n.Local = loc(far-12, far-9, 20) })
		checkLeft(t, getsMsg(probe(3, 0, 7)), late, impl.NodeUnsure)
	}
	checkLeft(t, getsMsg(probe(3, 0, 7)), fullNode(inCold), impl.NodeUnsure)
}

// An answer to an ask of its own is put in as a peer; the ask is gone then, so that it is used once.
func TestNodeGetOfAReply(t *testing.T) {
	for _, mode := range []int{inCold, inSync, inHold} {
		n := fullNode(mode)
		answered := func(p impl.Peer, at int, asks ...impl.Ask) impl.Node {
			return nodeWith(n, func(n *impl.Node) { n.Table, n.Peers[at] = tableOf(3, 9, asks...), p })
		}
		first, second, third := n.Table.Asks[0], n.Table.Asks[1], n.Table.Asks[2]
		checkBecomes(t, getsMsg(reply(1, 0, 3001, iv(105, 107))), n, answered(pe(1, 105, 116, 30), 0, second, third))
		checkBecomes(t, getsMsg(reply(1, 0, 3005, iv(105, 107))), n, answered(pe(1, 105, 115, 30), 0, first, second))
		checkBecomes(t, getsMsg(reply(1, 0, 3005, iv(-far, 0))), n, answered(pe(1, -far, 8, 30), 0, first, second))
		// One that was no peer yet comes in at its place, and who is suspect stays so.
		then := nodeWith(n, func(n *impl.Node) {
			n.Table, n.Peers = tableOf(3, 9, first, third), slices.Insert(n.Peers, 2, pe(5, 105, 112, 30))
		})
		checkBecomes(t, getsMsg(reply(5, 0, 3004, iv(105, 107))), n, then)
		n = nodeWith(n, func(n *impl.Node) { n.Peers[0].Suspect = true })
		checkBecomes(t, getsMsg(reply(1, 0, 3001, iv(105, 107))), n, answered(suspected(pe(1, 105, 116, 30)), 0, second, third))
		// By a drift of a half 9 counts may have taken 18.
		drifted := getsMsg(reply(1, 0, 3001, iv(105, 107)))
		drifted.c = drifting(dr(1, 2))
		checkBecomes(t, drifted, n, answered(suspected(pe(1, 105, 125, 30)), 0, second, third))
		used := drifted.of(n)
		checkLeft(t, drifted, used.n, impl.NodeNonce)
	}
}

// Nobody asked: a nonce that was never told, one that is gone, one of another epoch, one that went to another node.
func TestNodeGetOfAReplyToNothing(t *testing.T) {
	for _, mode := range []int{inCold, inSync, inHold} {
		for _, nonce := range []int{0, 1, 1001, 2001, 3000, 3002, 3003, 3006, 3009, 4001, impl.MaxNonce} {
			checkLeft(t, getsMsg(reply(1, 0, nonce, iv(105, 107))), fullNode(mode), impl.NodeNonce)
		}
		for _, from := range []int{2, 3, 4, 5, 6, 7} {
			checkLeft(t, getsMsg(reply(from, 0, 3001, iv(105, 107))), fullNode(mode), impl.NodeNonce)
		}
		checkLeft(t, getsMsg(reply(1, 0, 3004, iv(105, 107))), fullNode(mode), impl.NodeNonce)
		// Also where its bound would be too great.
		checkLeft(t, getsMsg(reply(2, 0, 3001, iv(105, far))), fullNode(mode), impl.NodeNonce)
	}
}

// Too great a bound: the ask is gone, so that it can't be used once more, and nothing else is changed.
func TestNodeGetOfAReplyThatIsOver(t *testing.T) {
	for _, mode := range []int{inCold, inSync, inHold} {
		n := fullNode(mode)
		used := nodeWith(n, func(n *impl.Node) { n.Table.Asks = n.Table.Asks[1:] })
		for _, said := range []impl.Ival{iv(105, far-8), iv(far-8, far-8), iv(-far, far), iv(far, far)} {
			over := getsMsg(reply(1, 0, 3001, said))
			checkNodeCall(t, over, n, leftAs(used, impl.NodeOver))
			checkLeft(t, over, used, impl.NodeNonce)
		}
		// The limit that is met exactly is accepted.
		then := nodeWith(used, func(n *impl.Node) { n.Peers[0] = pe(1, 105, far, 30) })
		checkBecomes(t, getsMsg(reply(1, 0, 3001, iv(105, far-9))), n, then)
		// The counts alone may be too many, wherever what was said lies.
		long := getsMsg(reply(1, 0, 3001, iv(-far, -far)))
		long.c, long.count = drifting(dr(1, 2)), far/2+22
		checkNodeCall(t, long, n, leftAs(used, impl.NodeOver))
		long.count--
		checkBecomes(t, long, n, nodeWith(used, func(n *impl.Node) { n.Peers[0] = pe(1, -far, 0, long.count) }))
	}
}

func TestNodeGetOfAFrame(t *testing.T) {
	for _, mode := range []int{inCold, inSync, inHold} {
		n := fullNode(mode)
		then := nodeWith(n, func(n *impl.Node) { n.Heard[1] = hd(1, 30) })
		checkBecomes(t, getsMsg(frame(1, 1, "body")), n, then)
		checkBecomes(t, getsMsg(frame(1, 1, "")), nodeIn(mode), nodeWith(nodeIn(mode), func(n *impl.Node) { n.Heard = heards(hd(1, 30)) }))
		// A slot of its own is heard from nobody else, and one of nobody from none.
		checkLeft(t, getsMsg(frame(1, 0, "body")), n, impl.NodeNot)
		checkLeft(t, getsMsg(frame(2, 1, "body")), n, impl.NodeNot)
		for slot := 2; slot <= 15; slot++ {
			checkLeft(t, getsMsg(frame(1, slot, "body")), n, impl.NodeNot)
		}
		other := nodeWith(nodeIn(mode), func(n *impl.Node) { n.Id = 4 })
		checkBecomes(t, getsMsg(frame(0, 0, "x")), other, nodeWith(other, func(n *impl.Node) { n.Heard = heards(hd(0, 30)) }))
	}
}

// Bytes that are none, from whomever: each packed message cut off anywhere, and with each one bit turned.
func TestNodeGetOfWhatIsNoMessage(t *testing.T) {
	n := fullNode(inSync)
	wrong := [][]byte{nil, {}, {90}, {1, 2}, []byte("no message at all"), slices.Repeat([]byte{255}, 200), sealed([]byte{4, 1, 0, 7}), sealed(form(1, 3, 0, 7, 7))}
	for _, m := range []impl.Msg{probe(3, 0, 7), reply(1, 0, 3001, iv(105, 107)), frame(1, 1, "body")} {
		b := wantPack(m)
		for cut := range b {
			wrong = append(wrong, b[:cut])
		}
		for i := range b {
			for bit := range 8 {
				turned := slices.Clone(b)
				turned[i] ^= 1 << bit
				wrong = append(wrong, turned)
			}
		}
		wrong = append(wrong, append(slices.Clone(b), 0), append(slices.Clone(b), b...))
	}
	for _, b := range wrong {
		for other := range impl.MaxNodes {
			checkLeft(t, gets(other, b), n, impl.NodeWire)
		}
	}
}

// Told from another node than it says, from itself, or to another one: whatever the kind, and ahead of all that the kind itself refuses.
func TestNodeGetFromAndToOthers(t *testing.T) {
	for _, mode := range []int{inCold, inSync, inHold} {
		n := fullNode(mode)
		all := []impl.Msg{probe(3, 0, 7), reply(1, 0, 3001, iv(105, 107)), reply(1, 0, 3001, iv(105, far)), reply(1, 0, 9, iv(1, 2)), frame(1, 1, "body"), frame(1, 0, "body"), frame(5, 15, "")}
		for _, m := range all {
			for other := range impl.MaxNodes {
				if other != m.From {
					checkLeft(t, gets(other, wantPack(m)), n, impl.NodeFrom)
				}
			}
			if m.Kind == impl.KindFrame {
				continue
			}
			for to := 1; to < impl.MaxNodes; to++ {
				if m.To = to; to != m.From {
					checkLeft(t, getsMsg(m), n, impl.NodeFrom)
				}
			}
		}
		// Its own: no probe to itself can be packed, so these are from it to others.
		for _, m := range []impl.Msg{probe(0, 3, 7), reply(0, 1, 3001, iv(105, 107)), frame(0, 0, "body"), frame(0, 1, "")} {
			checkLeft(t, getsMsg(m), n, impl.NodeFrom)
			checkLeft(t, gets(1, wantPack(m)), n, impl.NodeFrom)
		}
	}
}

// The sources of most fusions: 1 said 105 to 109 at 23, 2 said 100 to 105 at 25, so at 30 it is 112 to 116 and 105 to 110.
func sourced(mode int, more ...impl.Peer) impl.Node {
	return nodeWith(nodeIn(mode), func(n *impl.Node) {
		n.Peers = append(peers(pe(1, 105, 109, 23), suspected(pe(2, 100, 105, 25))), more...)
	})
}

func fuses(lie, least int) nodeCall {
	return nodeCall{kind: toFuse, c: cfgWith(func(c *impl.Cfg) { c.Lie, c.Least = lie, least }), count: 30}
}

func TestNodeFuse(t *testing.T) {
	// Who knows nothing takes the hull: where one may lie, from 105 to 116, and nobody is apart from that.
	cold := sourced(inCold)
	checkBecomes(t, fuses(1, 1), cold, nodeWith(cold, func(n *impl.Node) {
		n.Life, n.Local, n.Peers[1].Suspect = lf(inSync, 3, 30), loc(105, 116, 30), false
	}))
	// Who knows 110 to 114 takes what both have in common.
	for _, mode := range []int{inSync, inHold} {
		n := sourced(mode)
		since := map[int]int{inSync: 20, inHold: 30}[mode]
		checkBecomes(t, fuses(1, 2), n, nodeWith(n, func(n *impl.Node) {
			n.Life, n.Local, n.Peers[1].Suspect = lf(inSync, 3, since), loc(110, 114, 30), false
		}))
		// Of three, of which one may lie: 1 and 3 have 113 to 116 in common, and 2 is apart from that.
		n = sourced(mode, pe(3, 113, 119, 30))
		checkBecomes(t, fuses(1, 3), n, nodeWith(n, func(n *impl.Node) {
			n.Life, n.Local, n.Peers[1].Suspect = lf(inSync, 3, since), loc(113, 114, 30), true
		}))
	}
	// Who is marked anew and who is sure again.
	n := sourced(inCold, suspected(pe(3, 113, 119, 30)))
	checkBecomes(t, fuses(1, 1), n, nodeWith(n, func(n *impl.Node) {
		n.Life, n.Local, n.Peers[2].Suspect = lf(inSync, 3, 30), loc(113, 116, 30), false
	}))
}

// Too few, no number that enough have, and apart from what is known, in this order.
func TestNodeFuseRefuses(t *testing.T) {
	for _, mode := range []int{inCold, inSync, inHold} {
		n := sourced(mode)
		checkLeft(t, fuses(0, 3), n, impl.NodeFew)
		checkLeft(t, fuses(2, 1), n, impl.NodeFew)
		checkLeft(t, fuses(impl.MaxNodes, 1), n, impl.NodeFew)
		checkLeft(t, fuses(0, 1), nodeIn(mode), impl.NodeFew)
		checkLeft(t, fuses(0, 1), n, impl.NodeNone)
		checkLeft(t, fuses(0, 2), n, impl.NodeNone)
		// Few is told ahead of none.
		checkLeft(t, fuses(0, impl.MaxNodes), n, impl.NodeFew)
	}
	for _, mode := range []int{inSync, inHold} {
		n := nodeWith(sourced(mode), func(n *impl.Node) { n.Local = loc(200, 204, 20) })
		checkLeft(t, fuses(1, 1), n, impl.NodeApart)
		checkLeft(t, fuses(0, 1), n, impl.NodeNone)
		checkLeft(t, fuses(2, 1), n, impl.NodeFew)
		n.Local = loc(107, 110, 20)
		checkLeft(t, fuses(1, 1), n, impl.NodeApart)
		// One nearer, and they meet.
		n.Local = loc(106, 110, 20)
		if got := fuses(1, 1).of(n); got.code != impl.NodeDone || got.n.Local != loc(116, 116, 30) {
			t.Fatal(got)
		}
	}
}

// Sources that are too old count for nothing, and keep their marks; so do those that can't be carried on.
func TestNodeFuseBySourcesInTime(t *testing.T) {
	n := sourced(inCold, suspected(pe(6, 0, 1, 21)))
	old := fuses(1, 1)
	old.c.Age = 7
	checkBecomes(t, old, n, nodeWith(n, func(n *impl.Node) {
		n.Life, n.Local, n.Peers[1].Suspect = lf(inSync, 3, 30), loc(105, 116, 30), false
	}))
	old.c.Age, old.c.Lie = 6, 0
	checkBecomes(t, old, n, nodeWith(n, func(n *impl.Node) {
		n.Life, n.Local, n.Peers[1].Suspect = lf(inSync, 3, 30), loc(105, 110, 30), false
	}))
	old.c.Age = 4
	checkLeft(t, old, n, impl.NodeFew)
	beyond := sourced(inCold, suspected(pe(6, 0, far-8, 21)))
	checkBecomes(t, fuses(1, 2), beyond, nodeWith(beyond, func(n *impl.Node) {
		n.Life, n.Local, n.Peers[1].Suspect = lf(inSync, 3, 30), loc(105, 116, 30), false
	}))
	checkLeft(t, fuses(1, 3), beyond, impl.NodeFew)
}

// That what is known can't be carried on is told first.
func TestNodeFuseAtTheEndOfTime(t *testing.T) {
	for _, mode := range []int{inSync, inHold} {
		n := nodeWith(sourced(mode), func(n *impl.Node) { n.Local = loc(far-12, far-9, 20) })
		for _, q := range []nodeCall{fuses(1, 1), fuses(0, 1), fuses(0, 3), fuses(impl.MaxNodes, 8)} {
			checkLeft(t, q, n, impl.NodeOver)
		}
		checkLeft(t, fuses(1, 1), nodeWith(n, func(n *impl.Node) { n.Peers = nil }), impl.NodeOver)
	}
}

func TestNodeRead(t *testing.T) {
	read := nodeCall{kind: toRead, c: still(), count: 30}
	reads := func(n impl.Node, value int, holds bool) {
		t.Helper()
		checkNodeCall(t, read, n, nodeAnswer{n: nodeWith(n, func(n *impl.Node) { n.App = had(value) }), value: value, holds: holds})
	}
	for _, mode := range []int{inSync, inHold} {
		n := fullNode(mode)
		reads(nodeIn(mode), 112, false)
		reads(n, 112, false)
		for last, holds := range map[int]bool{112: false, 113: false, 114: false, 115: true, 900: true, far: true} {
			n.App = had(last)
			reads(n, last, holds)
		}
		n.App = had(-far)
		reads(n, 112, false)
		// What can't be carried on is not known.
		n.Local, n.App = loc(far-12, far-9, 20), had(5)
		reads(n, 5, true)
		n.App = impl.App{}
		checkLeft(t, read, n, impl.NodeUnsure)
	}
	reads(fullNode(inCold), 103, true)
	checkLeft(t, read, nodeIn(inCold), impl.NodeUnsure)
}

// True time from 118 to 119 at 30 is in round 9 of node 0's slot, from 118 to 123.
func sender() impl.Node {
	return nodeWith(fullNode(inSync), func(n *impl.Node) { n.Local = loc(108, 109, 20) })
}

func sends(body string) nodeCall { return nodeCall{kind: toSend, c: still(), count: 30, body: body} }

func TestNodeSend(t *testing.T) {
	for _, body := range []string{"", "a", "\x00\xff", strings.Repeat("x", impl.MaxBody)} {
		n := sender()
		then := nodeWith(n, func(n *impl.Node) { n.Sent = 30 })
		checkNodeCall(t, sends(body), n, nodeAnswer{n: then, m: frame(0, 0, body), value: 9})
		never := nodeWith(n, func(n *impl.Node) { n.Sent = -1 })
		checkNodeCall(t, sends(body), never, nodeAnswer{n: then, m: frame(0, 0, body), value: 9})
	}
	// Node 1's slot in round 9 is 125 to 128.
	other := nodeWith(nodeIn(inSync), func(n *impl.Node) { n.Id, n.Local = 1, loc(115, 116, 20) })
	checkNodeCall(t, sends("b"), other, nodeAnswer{n: nodeWith(other, func(n *impl.Node) { n.Sent = 30 }), m: frame(1, 1, "b"), value: 9})
	// The first round.
	other.Local = loc(7, 8, 20)
	checkNodeCall(t, sends("b"), other, nodeAnswer{n: nodeWith(other, func(n *impl.Node) { n.Sent = 30 }), m: frame(1, 1, "b")})
}

func TestNodeSendUnsure(t *testing.T) {
	for _, mode := range []int{inCold, inHold} {
		n := nodeWith(fullNode(mode), func(n *impl.Node) {
			if mode == inHold {
				n.Local = loc(108, 109, 20)
			}
		})
		checkLeft(t, sends("a"), n, impl.NodeUnsure)
	}
	for _, l := range []impl.Local{
		loc(107, 109, 20), loc(108, 112, 20), loc(112, 112, 20), loc(110, 112, 20), loc(114, 115, 20), loc(0, far/2, 20), loc(-20, -15, 20), loc(far-12, far-9, 20),
	} {
		checkLeft(t, sends("a"), nodeWith(sender(), func(n *impl.Node) { n.Local = l }), impl.NodeUnsure)
	}
	// Just in the slot, and it goes.
	for _, l := range []impl.Local{loc(108, 111, 20), loc(108, 108, 20), loc(111, 111, 20)} {
		if got := sends("a").of(nodeWith(sender(), func(n *impl.Node) { n.Local = l })); got.code != impl.NodeDone || got.value != 9 {
			t.Fatal(l, got)
		}
	}
	// Who has no slot never goes.
	checkLeft(t, sends("a"), nodeWith(sender(), func(n *impl.Node) { n.Id = 3 }), impl.NodeUnsure)
	// Keep is not asked here: it makes a node hold over by a tick alone.
	narrow := sends("a")
	narrow.c.Keep = 0
	if got := narrow.of(sender()); got.code != impl.NodeDone {
		t.Fatal(got)
	}
}

// A frame of 2 counts: that it may still be under way is told ahead of all that is unsure, and behind what is bad and off.
func TestNodeSendBusy(t *testing.T) {
	for sent, busy := range map[int]bool{-1: false, 0: false, 27: false, 28: false, 29: true, 30: true} {
		n := nodeWith(sender(), func(n *impl.Node) { n.Sent = sent })
		if got := sends("a").of(n); got.code != map[bool]int{true: impl.NodeBusy, false: impl.NodeDone}[busy] {
			t.Fatal(sent, got)
		}
		if !busy {
			continue
		}
		checkLeft(t, sends("a"), n, impl.NodeBusy)
		for _, mode := range []int{inCold, inSync, inHold} {
			checkLeft(t, sends("a"), nodeWith(nodeIn(mode), func(n *impl.Node) { n.Sent = sent }), impl.NodeBusy)
		}
		checkLeft(t, sends("a"), nodeWith(n, func(n *impl.Node) { n.Local = loc(far-12, far-9, 20) }), impl.NodeBusy)
	}
	// By a drift of a half 2 counts are 2 to 4, and 5 counts at least 4.
	for sent, busy := range map[int]bool{25: false, 26: true} {
		q := sends("a")
		q.c.Drift = dr(1, 2)
		n := nodeWith(sender(), func(n *impl.Node) { n.Local, n.Sent = loc(119, 119, 30), sent })
		if got := q.of(n); got.code != map[bool]int{true: impl.NodeBusy, false: impl.NodeDone}[busy] || !sameNodeAnswer(got, q.want(n)) {
			t.Fatal(sent, got)
		}
	}
}

// A boot is as if a frame had begun with it.
func TestNodeSendBehindABoot(t *testing.T) {
	n := sender()
	sent := sends("a").of(n)
	down := nodeCall{kind: toCrash, count: 30}.of(sent.n)
	up := nodeCall{kind: toBoot, count: 30}.of(down.n)
	fixed := nodeCall{kind: toFix, c: still(), count: 30, a: iv(118, 118)}.of(up.n)
	if sent.code != impl.NodeDone || fixed.code != impl.NodeDone || fixed.n.Sent != 30 {
		t.Fatal(sent, fixed)
	}
	checkLeft(t, sends("b"), fixed.n, impl.NodeBusy)
	later := sends("b")
	later.count = 31
	checkLeft(t, later, fixed.n, impl.NodeBusy)
	later.count = 32
	if got := later.of(fixed.n); got.code != impl.NodeDone || got.m != frame(0, 0, "b") {
		t.Fatal(got)
	}
}

func TestNodeTrue(t *testing.T) {
	c := still()
	for _, mode := range []int{inSync, inHold} {
		for time, want := range map[int]bool{109: false, 110: true, 112: true, 114: true, 115: false, -1: false, math.MinInt: false, math.MaxInt: false} {
			checkNodeTrue(t, c, nodeIn(mode), 30, time, want)
			checkNodeTrue(t, c, fullNode(mode), 30, time, want)
		}
		// Where nothing is told nothing is false: over, bad, not come.
		late := nodeWith(nodeIn(mode), func(n *impl.Node) { n.Local = loc(far-12, far-9, 20) })
		checkNodeTrue(t, c, late, 30, 5, true)
		checkNodeTrue(t, c, nodeIn(mode), 19, 5, true)
		checkNodeTrue(t, c, nodeIn(mode), far+1, 5, true)
		checkNodeTrue(t, impl.Cfg{}, nodeIn(mode), 30, 5, true)
	}
	for _, mode := range []int{inDown, inCold} {
		checkNodeTrue(t, c, nodeIn(mode), 30, 5, true)
	}
	for _, n := range wrongNodes() {
		checkNodeTrue(t, c, n, 30, 5, true)
	}
}

// What each kind may tell, and nothing else.
func codesOf(kind int) []int {
	return [][]int{
		toBoot:  {impl.NodeDone, impl.NodeBad, impl.NodeNot, impl.NodeSpent},
		toCrash: {impl.NodeDone, impl.NodeBad, impl.NodeOff},
		toNow:   {impl.NodeDone, impl.NodeBad, impl.NodeUnsure, impl.NodeOver},
		toFix:   {impl.NodeDone, impl.NodeBad, impl.NodeOff, impl.NodeOver, impl.NodeApart},
		toAsk:   {impl.NodeDone, impl.NodeBad, impl.NodeOff, impl.NodeSpent, impl.NodeFull},
		toTick:  {impl.NodeDone, impl.NodeBad, impl.NodeOff},
		toGet:   {impl.NodeDone, impl.NodeBad, impl.NodeOff, impl.NodeWire, impl.NodeFrom, impl.NodeUnsure, impl.NodeNonce, impl.NodeOver, impl.NodeNot},
		toFuse:  {impl.NodeDone, impl.NodeBad, impl.NodeOff, impl.NodeOver, impl.NodeFew, impl.NodeNone, impl.NodeApart},
		toRead:  {impl.NodeDone, impl.NodeBad, impl.NodeOff, impl.NodeUnsure},
		toSend:  {impl.NodeDone, impl.NodeBad, impl.NodeOff, impl.NodeBusy, impl.NodeUnsure},
	}[kind]
}

// Where a node may stand: among the first counts and times, or at the end of either.
func (l *lottery) standing() (count, truth int) {
	count, truth = 40+l.number(60), 30+l.number(200)
	switch l.number(12) {
	case 0:
		count = far - l.number(50)
	case 1:
		truth = far - l.number(30)
	case 2:
		count, truth = far-l.number(50), far-l.number(30)
	}
	return count, truth
}

func TestNodesAsTheDocumentSays(t *testing.T) {
	draw := &lottery{state: 181}
	var told [manyCalls][15]int
	for range 25000 {
		c := draw.cfg()
		count, truth := draw.standing()
		n := draw.node(count, truth)
		for kind := range manyCalls {
			q := draw.call(kind, c, n, count, truth)
			got, want := q.of(n), q.want(n)
			if !sameNodeAnswer(got, want) {
				t.Fatalf("%s of %v by %v:\ngot  %v\nwant %v", callName(kind), n, q, got, want)
			}
			told[kind][got.code]++
		}
		at := []int{truth, truth - 6, truth + 6}[draw.number(3)]
		checkNodeTrue(t, c, n, count, at, wantNodeTrue(c, n, count, at))
	}
	for kind, codes := range told {
		for code, many := range codes {
			if may := slices.Contains(codesOf(kind), code); may != (many > 0) || may && many < 100 {
				t.Errorf("%s tells %d in %d calls", callName(kind), code, many)
			}
		}
	}
}
