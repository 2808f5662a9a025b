package tests

import (
	"math"
	"slices"
	"strconv"
	"strings"

	"loop.example/g00072/impl"
)

// What the document says of a node, written again over what is said here of the chapters ahead of it.

// All that a call may tell, so that calls of every kind are held against the document alike.
type nodeAnswer struct {
	n     impl.Node
	now   impl.Ival
	m     impl.Msg
	list  []impl.Msg
	value int
	holds bool
	code  int
}

func sameNode(a, b impl.Node) bool {
	return a.Id == b.Id && a.Life == b.Life && a.Local == b.Local && sameTable(a.Table, b.Table) &&
		slices.Equal(a.Peers, b.Peers) && a.App == b.App && slices.Equal(a.Heard, b.Heard) && a.Sent == b.Sent
}

func sameNodeAnswer(a, b nodeAnswer) bool {
	return sameNode(a.n, b.n) && a.now == b.now && a.m == b.m && slices.Equal(a.list, b.list) &&
		a.value == b.value && a.holds == b.holds && a.code == b.code
}

func ownNode(n impl.Node) impl.Node {
	n.Table.Asks, n.Peers, n.Heard = slices.Clone(n.Table.Asks), slices.Clone(n.Peers), slices.Clone(n.Heard)
	return n
}

const (
	toBoot = iota
	toCrash
	toNow
	toFix
	toAsk
	toTick
	toGet
	toFuse
	toRead
	toSend
	manyCalls
)

func callName(kind int) string {
	return []string{"boot", "crash", "now", "fix", "ask", "tick", "get", "fuse", "read", "send"}[kind]
}

// A call of one of the kinds; each takes of the rest what it has.
type nodeCall struct {
	kind  int
	c     impl.Cfg
	count int
	a     impl.Ival
	// To whom is asked, or from whom it really comes.
	other int
	b     []byte
	body  string
}

func (q nodeCall) of(n impl.Node) (x nodeAnswer) {
	switch q.kind {
	case toBoot:
		x.n, x.code = impl.NodeBoot(n, q.count)
	case toCrash:
		x.n, x.code = impl.NodeCrash(n, q.count)
	case toNow:
		x.now, x.code = impl.NodeNow(q.c, n, q.count)
	case toFix:
		x.n, x.code = impl.NodeFix(q.c, n, q.count, q.a)
	case toAsk:
		x.n, x.m, x.code = impl.NodeAsk(q.c, n, q.count, q.other)
	case toTick:
		x.n, x.list, x.code = impl.NodeTick(q.c, n, q.count)
	case toGet:
		x.n, x.m, x.code = impl.NodeGet(q.c, n, q.count, q.other, q.b)
	case toFuse:
		x.n, x.code = impl.NodeFuse(q.c, n, q.count)
	case toRead:
		x.n, x.value, x.holds, x.code = impl.NodeRead(q.c, n, q.count)
	case toSend:
		x.n, x.m, x.value, x.code = impl.NodeSend(q.c, n, q.count, q.body)
	}
	return x
}

func wantCfgOk(c impl.Cfg) bool {
	return wantDriftOk(c.Drift) && wantPlanOk(c.Plan) && inRange(bigOf(c.Lie), 0, impl.MaxNodes) && inRange(bigOf(c.Least), 1, impl.MaxNodes) &&
		bigTime(bigOf(c.Patience)) && bigTime(bigOf(c.Age)) && bigTime(bigOf(c.Keep)) && inRange(bigOf(c.Long), 1, impl.MaxLong)
}

func wantNodeOk(n impl.Node) bool {
	parts := wantLifeOk(n.Life) && wantLocalOk(n.Local) && wantTableOk(n.Table) && wantPeersOk(n.Peers) && wantAppOk(n.App) && wantHeardOk(n.Heard)
	if !wantNode(n.Id) || !parts || !inRange(bigOf(n.Sent), -1, far) {
		return false
	}
	own := slices.ContainsFunc(n.Peers, func(p impl.Peer) bool { return p.Id == n.Id }) ||
		slices.ContainsFunc(n.Table.Asks, func(a impl.Ask) bool { return a.To == n.Id })
	if n.Local.Known != wantLifeKnows(n.Life) || n.Table.Epoch != n.Life.Epoch || own {
		return false
	}
	nothing := impl.Node{Id: n.Id, Life: n.Life, Table: tableOf(n.Life.Epoch, 0), Sent: -1}
	return n.Life.Mode != inDown || sameNode(n, nothing)
}

func wantNewNode(id int) impl.Node {
	if !wantNode(id) {
		return impl.Node{}
	}
	return impl.Node{Id: id, Sent: -1}
}

func wantCome(n impl.Node, count int) bool {
	come := bigTime(bigOf(count)) && n.Life.Since <= count && n.Sent <= count && (!n.Local.Known || n.Local.At <= count)
	for _, a := range n.Table.Asks {
		come = come && a.At <= count
	}
	for _, p := range n.Peers {
		come = come && p.At <= count
	}
	for _, h := range n.Heard {
		come = come && h.At <= count
	}
	return come
}

func (q nodeCall) hasCfg() bool { return q.kind != toBoot && q.kind != toCrash }

// What is NodeBad too, of the kinds that say so.
func (q nodeCall) fits(id int) bool {
	switch q.kind {
	case toFix:
		return bigIvalOf(q.a).ok()
	case toAsk:
		return wantNode(q.other) && q.other != id
	case toGet:
		return wantNode(q.other)
	case toSend:
		return len(q.body) <= impl.MaxBody
	}
	return true
}

func (q nodeCall) want(n impl.Node) nodeAnswer {
	if q.hasCfg() && !wantCfgOk(q.c) || !wantNodeOk(n) || !wantCome(n, q.count) || !q.fits(n.Id) {
		return nodeAnswer{code: impl.NodeBad}
	}
	switch q.kind {
	case toBoot:
		return q.wantBoot(n)
	case toNow:
		return q.wantNow(n)
	}
	if n.Life.Mode == inDown {
		return leftAs(n, impl.NodeOff)
	}
	return map[int]func(impl.Node) nodeAnswer{
		toCrash: q.wantCrash, toFix: q.wantFix, toAsk: q.wantAsk, toTick: q.wantTick, toGet: q.wantGet,
		toFuse: q.wantFuse, toRead: q.wantRead, toSend: q.wantSend,
	}[q.kind](n)
}

// The node as it was, and all else zero.
func leftAs(n impl.Node, code int) nodeAnswer { return nodeAnswer{n: n, code: code} }

func (q nodeCall) life(n impl.Node, kind int) impl.Life {
	return wantLifeStep(n.Life, ev(kind, q.count)).l
}

func (q nodeCall) wantBoot(n impl.Node) nodeAnswer {
	if n.Life.Mode != inDown {
		return leftAs(n, impl.NodeNot)
	}
	if n.Life.Epoch == impl.MaxEpoch {
		return leftAs(n, impl.NodeSpent)
	}
	return nodeAnswer{n: impl.Node{Id: n.Id, Life: lf(inCold, n.Life.Epoch+1, q.count), Table: tableOf(n.Life.Epoch+1, 0), Sent: q.count}}
}

func (q nodeCall) wantCrash(n impl.Node) nodeAnswer {
	return nodeAnswer{n: impl.Node{Id: n.Id, Life: lf(inDown, n.Life.Epoch, q.count), Table: tableOf(n.Life.Epoch, 0), Sent: -1}}
}

func (q nodeCall) wantNow(n impl.Node) nodeAnswer {
	if !n.Local.Known {
		return nodeAnswer{code: impl.NodeUnsure}
	}
	now := wantCarryOn(n.Local, q.c.Drift, q.count)
	if now.code == impl.LocOver {
		return nodeAnswer{code: impl.NodeOver}
	}
	return nodeAnswer{now: now.a}
}

func (q nodeCall) wantFix(n impl.Node) nodeAnswer {
	if q.wantNow(n).code == impl.NodeOver {
		return leftAs(n, impl.NodeOver)
	}
	told := wantNarrow(n.Local, q.c.Drift, q.count, q.a)
	if told.code == impl.LocEmpty {
		return leftAs(n, impl.NodeApart)
	}
	n.Local, n.Life = told.l, q.life(n, impl.EvLearn)
	return nodeAnswer{n: n}
}

func (q nodeCall) wantAsk(n impl.Node) nodeAnswer {
	told := wantIssue(n.Table, q.other, q.count)
	if told.code != impl.AskDone {
		return leftAs(n, map[int]int{impl.AskSpent: impl.NodeSpent, impl.AskFull: impl.NodeFull}[told.code])
	}
	n.Table = told.table
	return nodeAnswer{n: n, m: probe(n.Id, q.other, told.nonce)}
}

func (q nodeCall) wantTick(n impl.Node) nodeAnswer {
	told := wantAgain(n.Table, q.count, q.c.Patience)
	n.Table = told.table
	var list []impl.Msg
	for _, a := range told.came {
		list = append(list, probe(n.Id, a.To, a.Nonce))
	}
	now := q.wantNow(n)
	switch {
	case !n.Local.Known:
	case now.code == impl.NodeOver:
		n.Life, n.Local = q.life(n, impl.EvLost), impl.Local{}
	case n.Life.Mode == inSync && wantWide(now.now) > q.c.Keep:
		n.Life = q.life(n, impl.EvWide)
	case n.Life.Mode == inHold && wantWide(now.now) <= q.c.Keep:
		n.Life = q.life(n, impl.EvNarrow)
	}
	return nodeAnswer{n: n, list: list}
}

func (q nodeCall) wantGet(n impl.Node) nodeAnswer {
	read := wantUnpack(q.b)
	if read.code != impl.WireWell {
		return leftAs(n, impl.NodeWire)
	}
	m := read.m
	if m.From != q.other || m.From == n.Id || m.Kind != impl.KindFrame && m.To != n.Id {
		return leftAs(n, impl.NodeFrom)
	}
	switch m.Kind {
	case impl.KindProbe:
		now := q.wantNow(n)
		if now.code != impl.NodeDone {
			return leftAs(n, impl.NodeUnsure)
		}
		return nodeAnswer{n: n, m: reply(n.Id, q.other, m.Nonce, now.now)}
	case impl.KindReply:
		return q.wantReply(n, m)
	}
	heard := wantHear(n.Heard, q.c.Plan, m, q.count)
	if heard.code == impl.HearNot {
		return leftAs(n, impl.NodeNot)
	}
	n.Heard = heard.list
	return nodeAnswer{n: n}
}

func (q nodeCall) wantReply(n impl.Node, m impl.Msg) nodeAnswer {
	used := wantUse(n.Table, m.Nonce, q.other)
	if used.code != impl.AskDone {
		return leftAs(n, impl.NodeNonce)
	}
	n.Table = used.table
	bound := wantRoundBound(q.c.Drift, m.Said, q.count-used.a.At)
	if bound.code == impl.RndOver {
		return leftAs(n, impl.NodeOver)
	}
	n.Peers = wantPut(n.Peers, q.other, bound.a, q.count).list
	return nodeAnswer{n: n}
}

func (q nodeCall) wantFuse(n impl.Node) nodeAnswer {
	now := q.wantNow(n)
	if now.code == impl.NodeOver {
		return leftAs(n, impl.NodeOver)
	}
	told := wantCarried(n.Peers, q.c.Drift, q.count, q.c.Age)
	fused := wantFuseInto(fusing{now.now, n.Local.Known, told.bounds, q.c.Lie, q.c.Least})
	if fused.code != impl.FuseDone {
		return leftAs(n, map[int]int{impl.FuseFew: impl.NodeFew, impl.FuseNone: impl.NodeNone, impl.FuseApart: impl.NodeApart}[fused.code])
	}
	n.Local, n.Life = loc(fused.a.Lo, fused.a.Hi, q.count), q.life(n, impl.EvLearn)
	n.Peers = wantMark(n.Peers, told, fused.a)
	return nodeAnswer{n: n}
}

func (q nodeCall) wantRead(n impl.Node) nodeAnswer {
	now := q.wantNow(n)
	read := wantAppRead(n.App, now.code == impl.NodeDone, now.now)
	if read.code == impl.ReadUnsure {
		return leftAs(n, impl.NodeUnsure)
	}
	n.App = read.a
	return nodeAnswer{n: n, value: read.value, holds: read.holds}
}

func (q nodeCall) wantSend(n impl.Node) nodeAnswer {
	if n.Sent != -1 && wantBusyStill(q.c.Drift, n.Sent, q.c.Long, q.count) {
		return leftAs(n, impl.NodeBusy)
	}
	now := q.wantNow(n)
	if n.Life.Mode != inSync || now.code != impl.NodeDone {
		return leftAs(n, impl.NodeUnsure)
	}
	gone := wantGateAsk(question{now.now, true, q.c.Drift, q.c.Long, q.c.Plan, n.Id})
	if gone.code == impl.GateUnsure {
		return leftAs(n, impl.NodeUnsure)
	}
	n.Sent = q.count
	return nodeAnswer{n: n, m: frame(n.Id, gone.slot, q.body), value: gone.round}
}

func wantNodeTrue(c impl.Cfg, n impl.Node, count, time int) bool {
	now := nodeCall{kind: toNow, c: c, count: count}.want(n)
	return now.code != impl.NodeDone || wantHolds(now.now, time)
}

// The settings of most tests: two slots from 10 on, a round of 12, and no drift.
func still() impl.Cfg {
	return impl.Cfg{Drift: dr(0, 1), Lie: 0, Least: 1, Patience: 10, Age: 50, Keep: 8, Long: 2, Plan: planOf(10, 2, sl(0, 5), sl(1, 3))}
}

func drifting(d impl.Drift) impl.Cfg {
	c := still()
	c.Drift = d
	return c
}

func cfgWith(change func(c *impl.Cfg)) impl.Cfg {
	c := still()
	change(&c)
	return c
}

// Node 0 in its third epoch and a mode, since 20, with nothing; where the mode knows, true time lay from 100 to 104 at 20.
func nodeIn(mode int) impl.Node {
	n := impl.Node{Life: lf(mode, 3, 20), Table: tableOf(3, 0), Sent: -1}
	if mode == inSync || mode == inHold {
		n.Local = loc(100, 104, 20)
	}
	return n
}

// The same with all that a node may have; down it may have nothing.
func fullNode(mode int) impl.Node {
	n := nodeIn(mode)
	if mode == inDown {
		return n
	}
	n.Table = tableOf(3, 9, ak(3001, 1, 21, 1), ak(3004, 5, 25, 4), ak(3005, 1, 22, 3))
	n.Peers = peers(pe(1, 101, 109, 23), suspected(pe(2, 90, 95, 21)), pe(7, 100, 106, 24))
	n.App, n.Heard, n.Sent = had(103), heards(hd(0, 21), hd(1, 26), hd(14, 22)), 19
	return n
}

func nodeWith(n impl.Node, change func(n *impl.Node)) impl.Node {
	n = ownNode(n)
	change(&n)
	return n
}

// Nodes that are right, at each edge of what a node is.
func rightNodes() map[string]impl.Node {
	all := map[string]impl.Node{}
	for _, mode := range allModes() {
		name := wantLifeName(mode)
		all[name] = nodeIn(mode)
		all[name+", with all it may have"] = fullNode(mode)
		all[name+" in the epoch 0"] = nodeWith(nodeIn(mode), func(n *impl.Node) { n.Life.Epoch, n.Table.Epoch = 0, 0 })
		all[name+" in the last epoch"] = nodeWith(nodeIn(mode), func(n *impl.Node) { n.Life.Epoch, n.Table.Epoch = impl.MaxEpoch, impl.MaxEpoch })
		all[name+" since the last count"] = nodeWith(nodeIn(mode), func(n *impl.Node) { n.Life.Since = far })
		all[name+", the last of all"] = nodeWith(nodeIn(mode), func(n *impl.Node) { n.Id = impl.MaxNodes - 1 })
	}
	for _, mode := range []int{inCold, inSync, inHold} {
		change := func(name string, by func(n *impl.Node)) {
			all[wantLifeName(mode)+", "+name] = nodeWith(nodeIn(mode), by)
		}
		change("sent at 0", func(n *impl.Node) { n.Sent = 0 })
		change("sent at the last count", func(n *impl.Node) { n.Sent = far })
		change("all nonces used", func(n *impl.Node) { n.Table.Used = impl.NoncesEach })
		change("as many asks as may be", func(n *impl.Node) { n.Table = otherAsks(impl.MaxAsks) })
		change("all other nodes as peers", func(n *impl.Node) { n.Peers = peersWith(impl.MaxNodes)[1:] })
		change("all heard", func(n *impl.Node) { n.Heard = heardWith(impl.MaxHeard) })
		change("read at the last time", func(n *impl.Node) { n.App = had(far) })
		change("read below 0", func(n *impl.Node) { n.App = had(-far) })
		change("read at 0", func(n *impl.Node) { n.App = had(0) })
	}
	for _, a := range rightSources() {
		all["a bound of "+strconv.Itoa(a.Lo)+" to "+strconv.Itoa(a.Hi)] = nodeWith(nodeIn(inSync), func(n *impl.Node) { n.Local = loc(a.Lo, a.Hi, far) })
	}
	return all
}

// So many asks of the third epoch, none to node 0.
func otherAsks(many int) impl.Table {
	t := tableWith(3, many)
	for i := range t.Asks {
		t.Asks[i].To = 1 + i%7
	}
	return t
}

// One that is none, in each of its ways.
func wrongNodes() map[string]impl.Node {
	all := map[string]impl.Node{"the zero value": {}}
	for _, mode := range allModes() {
		change := func(name string, by func(n *impl.Node)) {
			all[wantLifeName(mode)+", "+name] = nodeWith(fullNode(mode), by)
		}
		for _, id := range noNodes() {
			change("the Id "+strconv.Itoa(id), func(n *impl.Node) { n.Id = id })
		}
		for _, sent := range []int{math.MinInt, -far, -2, far + 1, math.MaxInt} {
			change("Sent "+strconv.Itoa(sent), func(n *impl.Node) { n.Sent = sent })
		}
		change("a table of the epoch ahead", func(n *impl.Node) { n.Table = tableOf(2, 0) })
		change("a table of the epoch behind", func(n *impl.Node) { n.Table = tableOf(4, 0) })
		change("a life of the epoch ahead", func(n *impl.Node) { n.Life.Epoch = 2 })
		change("a life of the epoch behind", func(n *impl.Node) { n.Life.Epoch = 4 })
		change("known where it is not, or the other way", func(n *impl.Node) {
			if n.Local.Known {
				n.Local = impl.Local{}
			} else {
				n.Local = loc(100, 104, 20)
			}
		})
		change("a source of its own", func(n *impl.Node) { n.Peers = append(peers(pe(0, 101, 109, 21)), n.Peers...) })
		change("asked itself", func(n *impl.Node) { n.Table = tableOf(3, 9, ak(3001, 1, 21, 1), ak(3004, 0, 25, 4)) })
		// Other parts that are right leave a wrong one wrong; down they are none already.
		for name, l := range wrongLives() {
			change("a life, "+name, func(n *impl.Node) { n.Life, n.Table = l, tableOf(l.Epoch, 0) })
		}
		for name, list := range wrongLists() {
			change("peers, "+name, func(n *impl.Node) { n.Peers = list })
		}
		for name, list := range wrongHeardLists() {
			change("heard, "+name, func(n *impl.Node) { n.Heard = list })
		}
		for name, table := range wrongTables() {
			change("a table, "+name, func(n *impl.Node) { n.Table, n.Life.Epoch = table, table.Epoch })
		}
		for i, a := range wrongApps() {
			change("a clock, "+strconv.Itoa(i), func(n *impl.Node) { n.App = a })
		}
		for i, l := range wrongLocals() {
			change("what is known, "+strconv.Itoa(i), func(n *impl.Node) { n.Local = l })
		}
	}
	for name, n := range somethingWhileDown() {
		all["down, "+name] = n
	}
	return all
}

// What a node has in every other mode, one at a time.
func somethingWhileDown() map[string]impl.Node {
	all, down := map[string]impl.Node{}, nodeIn(inDown)
	change := func(name string, by func(n *impl.Node)) { all[name] = nodeWith(down, by) }
	change("an ask", func(n *impl.Node) { n.Table = tableOf(3, 1, ak(3000, 1, 5, 1)) })
	change("a nonce used", func(n *impl.Node) { n.Table.Used = 1 })
	change("all nonces used", func(n *impl.Node) { n.Table.Used = impl.NoncesEach })
	change("a peer", func(n *impl.Node) { n.Peers = peers(pe(1, 0, 0, 0)) })
	change("a reading", func(n *impl.Node) { n.App = had(5) })
	change("a reading of 0", func(n *impl.Node) { n.App = had(0) })
	change("something heard", func(n *impl.Node) { n.Heard = heards(hd(0, 0)) })
	change("a frame sent at 0", func(n *impl.Node) { n.Sent = 0 })
	change("a frame sent", func(n *impl.Node) { n.Sent = 20 })
	change("something known", func(n *impl.Node) { n.Local = loc(0, 0, 0) })
	return all
}

// Settings that are none, in each of their ways.
func wrongCfgs() map[string]impl.Cfg {
	all := map[string]impl.Cfg{"the zero value": {}}
	fields := map[string]struct {
		field func(c *impl.Cfg) *int
		low   int
		high  int
	}{
		"Lie":      {func(c *impl.Cfg) *int { return &c.Lie }, 0, impl.MaxNodes},
		"Least":    {func(c *impl.Cfg) *int { return &c.Least }, 1, impl.MaxNodes},
		"Patience": {func(c *impl.Cfg) *int { return &c.Patience }, 0, far},
		"Age":      {func(c *impl.Cfg) *int { return &c.Age }, 0, far},
		"Keep":     {func(c *impl.Cfg) *int { return &c.Keep }, 0, far},
		"Long":     {func(c *impl.Cfg) *int { return &c.Long }, 1, impl.MaxLong},
	}
	for name, f := range fields {
		for _, x := range []int{math.MinInt, f.low - 1, f.high + 1, math.MaxInt} {
			all[name+" "+strconv.Itoa(x)] = cfgWith(func(c *impl.Cfg) { *f.field(c) = x })
		}
	}
	for _, d := range mixedDrifts() {
		if !wantDriftOk(d) {
			all["a drift "+strconv.Itoa(d.Num)+" by "+strconv.Itoa(d.Den)] = drifting(d)
		}
	}
	for name, p := range wrongPlans() {
		all["a plan, "+name] = cfgWith(func(c *impl.Cfg) { c.Plan = p })
	}
	return all
}

// A call of each kind that node 0 in LifeSync, as nodeIn tells it, is done with at 30.
func callsDone() []nodeCall {
	c := still()
	return []nodeCall{
		{kind: toBoot, count: 30}, {kind: toCrash, count: 30}, {kind: toNow, c: c, count: 30}, {kind: toFix, c: c, count: 30, a: iv(100, 120)},
		{kind: toAsk, c: c, count: 30, other: 3}, {kind: toTick, c: c, count: 30}, {kind: toGet, c: c, count: 30, other: 3, b: wantPack(probe(3, 0, 7))},
		{kind: toFuse, c: c, count: 30}, {kind: toRead, c: c, count: 30}, {kind: toSend, c: c, count: 30, body: "body"},
	}
}

// What a call may be given that is NodeBad too, of the kinds that say so.
func unfitCalls() map[string]nodeCall {
	all, calls := map[string]nodeCall{}, callsDone()
	for i, a := range wrongSources() {
		q := calls[toFix]
		q.a = a
		all["a fix, "+strconv.Itoa(i)] = q
	}
	for _, other := range noNodes() {
		ask, get := calls[toAsk], calls[toGet]
		ask.other, get.other = other, other
		all["an ask to "+strconv.Itoa(other)], all["a message from "+strconv.Itoa(other)] = ask, get
	}
	self := calls[toAsk]
	self.other = 0
	all["an ask to itself"] = self
	for _, long := range []int{impl.MaxBody + 1, impl.MaxBody + 2, 1000} {
		q := calls[toSend]
		q.body = strings.Repeat("x", long)
		all["a body of "+strconv.Itoa(long)] = q
	}
	return all
}

// Any settings within few counts, so that all that may come of them comes.
func (l *lottery) cfg() impl.Cfg {
	d := []impl.Drift{dr(0, 1), dr(1, 2), dr(1, 10), dr(1, 1000)}[l.number(4)]
	return impl.Cfg{
		Drift: d, Lie: l.number(3), Least: 1 + l.number(3), Patience: l.number(30), Age: l.number(60), Keep: l.number(14), Long: 1 + l.number(3),
		Plan: l.plan(1+l.number(4), 3, 30, 4, 40),
	}
}

// A count that may be one since which something is: a few counts ago at most, now and then long ago.
func (l *lottery) ago(count int) int {
	if l.number(12) == 0 {
		return l.upTo(count)
	}
	return max(0, count-l.number(40))
}

func (l *lottery) node(count, truth int) impl.Node { return l.nodeAt(l.number(3), count, truth) }

// A node of that Id that has come to the count, with what it knows around true time then, or beside it.
func (l *lottery) nodeAt(id, count, truth int) impl.Node {
	n := impl.NewNode(id)
	epoch := []int{0, l.number(9), impl.MaxEpoch - l.number(2)}[l.number(3)]
	n.Life, n.Table.Epoch = lf(l.number(4), epoch, l.ago(count)), epoch
	if n.Life.Mode == inDown {
		return n
	}
	if l.number(3) > 0 {
		n.Sent = l.ago(count)
	}
	if n.Life.Mode != inCold {
		n.Local = l.knownOf(count, truth)
	}
	n.Table = l.asksOf(n.Id, epoch, count)
	for id := range impl.MaxNodes {
		if id != n.Id && l.number(3) == 0 {
			known := l.knownOf(count, truth)
			n.Peers = append(n.Peers, impl.Peer{Id: id, Bound: known.Bound, At: known.At, Suspect: l.number(2) == 0})
		}
	}
	if l.number(2) == 0 {
		n.App = had(min(far, truth-10+l.number(20)))
	}
	n.Heard = l.heards(l.number(5), impl.MaxHeard, 1+count)
	return n
}

// What was known some counts ago, when true time was about as many ago.
func (l *lottery) knownOf(count, truth int) impl.Local {
	at := l.ago(count)
	then := max(-far, truth-(count-at))
	a := l.around(then, 12)
	if l.number(5) == 0 {
		a = l.beside(then, 12)
	}
	return impl.Local{Known: true, Bound: a, At: at}
}

// Asks of others than the node itself: few, or as many as may be; now and then all nonces are used.
func (l *lottery) asksOf(id, epoch, count int) impl.Table {
	t := tableOf(epoch, 0)
	many := []int{0, l.number(6), l.number(6), impl.MaxAsks}[l.number(4)]
	for range many {
		t.Used += 1 + l.number(3)
		to := (id + 1 + l.number(impl.MaxNodes-1)) % impl.MaxNodes
		t.Asks = append(t.Asks, ak(epoch*impl.NoncesEach+t.Used-1, to, l.ago(count), 1+l.number(impl.MaxTries)))
	}
	switch l.number(6) {
	case 0:
		t.Used = impl.NoncesEach
	case 1:
		t.Used = impl.NoncesEach - l.number(3)
	}
	return t
}

// A message that a node may take, or that one field keeps it from taking; and from whom it really comes.
func (l *lottery) message(c impl.Cfg, n impl.Node, truth int) (impl.Msg, int) {
	from := l.number(impl.MaxNodes)
	if l.number(6) > 0 && from == n.Id {
		from = (from + 1) % impl.MaxNodes
	}
	var m impl.Msg
	switch l.number(4) {
	case 0:
		m = probe(from, n.Id, l.upTo(impl.MaxNonce))
	case 1:
		slot := l.number(len(c.Plan.Slots))
		if l.number(3) > 0 {
			from = c.Plan.Slots[slot].Owner
		}
		m = frame(from, []int{slot, slot, slot, l.number(16)}[l.number(4)], "body"[:l.number(5)])
	default:
		m = reply(from, n.Id, l.upTo(impl.MaxNonce), l.around(truth, 12))
		if len(n.Table.Asks) > 0 && l.number(5) > 0 {
			a := n.Table.Asks[l.number(len(n.Table.Asks))]
			m.From, m.Nonce = a.To, a.Nonce
		}
		from = m.From
	}
	switch l.number(16) {
	case 0:
		m.From = l.number(impl.MaxNodes)
	case 1:
		m.To = l.number(impl.MaxNodes)
	case 2:
		from = l.number(impl.MaxNodes)
	}
	return m, from
}

// Bytes that are a message as it should be, now and then with one changed, cut off, or any at all.
func (l *lottery) bytesOf(m impl.Msg) []byte {
	b := wantPack(m)
	switch {
	case len(b) == 0 || l.number(30) == 0:
		return []byte("no message"[:l.number(11)])
	case l.number(20) == 0:
		b[l.number(len(b))] ^= 1 << l.number(8)
	case l.number(20) == 0:
		b = b[:l.number(len(b))]
	}
	return b
}

// A call of that kind to a node whose true time it is, mostly as it should be.
func (l *lottery) call(kind int, c impl.Cfg, n impl.Node, count, truth int) nodeCall {
	q := nodeCall{kind: kind, c: c, count: count, other: l.number(impl.MaxNodes)}
	q.a = l.around(truth, 12)
	if l.number(4) == 0 {
		q.a = l.beside(truth, 12)
	}
	if kind == toGet {
		var m impl.Msg
		m, q.other = l.message(c, n, truth)
		q.b = l.bytesOf(m)
	}
	q.body = strings.Repeat("x", l.number(impl.MaxBody+1))
	switch l.number(40) {
	case 0:
		q.count = []int{count - 1 - l.number(30), -1, far + 1, math.MinInt, math.MaxInt}[l.number(5)]
	case 1:
		q.c.Lie = []int{-1, impl.MaxNodes + 1}[l.number(2)]
	case 2:
		q.a, q.other, q.body = wrongSources()[l.number(15)], noNodes()[l.number(6)], strings.Repeat("x", impl.MaxBody+1)
	}
	return q
}
