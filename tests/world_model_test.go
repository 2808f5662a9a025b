package tests

import (
	"math"
	"slices"
	"strconv"
	"strings"

	"loop.example/g00072/impl"
)

// What the document says of the world, written again over what is said here of the chapters ahead of it.

type worldAnswer struct {
	w    impl.World
	told impl.Told
	code int
}

type courseAnswer struct {
	w     impl.World
	told  []impl.Told
	codes []int
}

func sameCfg(a, b impl.Cfg) bool {
	numbers := func(c impl.Cfg) [6]int { return [6]int{c.Lie, c.Least, c.Patience, c.Age, c.Keep, c.Long} }
	return a.Drift == b.Drift && numbers(a) == numbers(b) && samePlan(a.Plan, b.Plan)
}

func sameWorld(a, b impl.World) bool {
	return sameCfg(a.Cfg, b.Cfg) && slices.Equal(a.Liars, b.Liars) && a.Time == b.Time && slices.Equal(a.Counts, b.Counts) &&
		slices.EqualFunc(a.Nodes, b.Nodes, sameNode) && sameNet(a.Net, b.Net) && slices.Equal(a.Frames, b.Frames)
}

func sameWorldAnswer(a, b worldAnswer) bool {
	return sameWorld(a.w, b.w) && a.told == b.told && a.code == b.code
}

func sameCourse(a, b courseAnswer) bool {
	return sameWorld(a.w, b.w) && slices.Equal(a.told, b.told) && slices.Equal(a.codes, b.codes)
}

func ownWorld(w impl.World) impl.World {
	w.Cfg.Plan.Slots, w.Liars, w.Counts = slices.Clone(w.Cfg.Plan.Slots), slices.Clone(w.Liars), slices.Clone(w.Counts)
	w.Net.List, w.Frames, w.Nodes = slices.Clone(w.Net.List), slices.Clone(w.Frames), slices.Clone(w.Nodes)
	for i, n := range w.Nodes {
		w.Nodes[i] = ownNode(n)
	}
	return w
}

func worldWith(w impl.World, change func(w *impl.World)) impl.World {
	w = ownWorld(w)
	change(&w)
	return w
}

func doOp(w impl.World, o impl.Op) (x worldAnswer) {
	x.w, x.told, x.code = impl.WorldDo(w, o)
	return x
}

func runOps(w impl.World, list []impl.Op) (x courseAnswer) {
	x.w, x.told, x.codes = impl.WorldRun(w, list)
	return x
}

func wantPlaceIn(w impl.World, i int) bool { return 0 <= i && i < len(w.Nodes) }

func wantWorldOk(w impl.World) bool {
	many := len(w.Nodes)
	if !wantCfgOk(w.Cfg) || many < 1 || many > impl.MaxNodes || len(w.Liars) != many || len(w.Counts) != many || !bigTime(bigOf(w.Time)) {
		return false
	}
	for i, n := range w.Nodes {
		if !wantNodeOk(n) || n.Id != i || !wantCome(n, w.Counts[i]) {
			return false
		}
	}
	noFlight := func(f impl.Flight) bool {
		return !wantPlaceIn(w, f.From) || !wantPlaceIn(w, f.To) || f.At > w.Time
	}
	noFrame := func(f impl.Frame) bool { return !wantPlaceIn(w, f.From) || f.Start > w.Time }
	return wantNetOk(w.Net) && !slices.ContainsFunc(w.Net.List, noFlight) && wantBusOk(w.Frames) && !slices.ContainsFunc(w.Frames, noFrame)
}

func wantNewWorld(c impl.Cfg, liars []bool) (impl.World, bool) {
	w := impl.World{Cfg: c, Liars: liars, Counts: make([]int, len(liars))}
	for i := range liars {
		w.Nodes = append(w.Nodes, wantNewNode(i))
	}
	if !wantWorldOk(w) {
		return impl.World{}, false
	}
	return w, true
}

// What a field may be at most, by the document's row of its kind; of what a kind does not name that is nothing.
const unnamed = -1

type opRow struct {
	kind, node, to, a, b, text, list int
}

func opRows() []opRow {
	last, flight := impl.MaxNodes-1, impl.MaxFlights-1
	return []opRow{
		{impl.OpPass, unnamed, unnamed, impl.MaxPass, unnamed, unnamed, impl.MaxNodes},
		{impl.OpBoot, last, unnamed, unnamed, unnamed, unnamed, unnamed},
		{impl.OpCrash, last, unnamed, unnamed, unnamed, unnamed, unnamed},
		{impl.OpFix, last, unnamed, impl.MaxPass, impl.MaxPass, unnamed, unnamed},
		{impl.OpAsk, last, last, unnamed, unnamed, unnamed, unnamed},
		{impl.OpTick, last, unnamed, unnamed, unnamed, unnamed, unnamed},
		{impl.OpFuse, last, unnamed, unnamed, unnamed, unnamed, unnamed},
		{impl.OpRead, last, unnamed, unnamed, unnamed, unnamed, unnamed},
		{impl.OpSend, last, unnamed, impl.MaxPass, unnamed, impl.MaxBody, unnamed},
		{impl.OpDeliver, unnamed, unnamed, flight, unnamed, unnamed, unnamed},
		{impl.OpDrop, unnamed, unnamed, flight, unnamed, unnamed, unnamed},
		{impl.OpDouble, unnamed, unnamed, flight, unnamed, unnamed, unnamed},
		{impl.OpMove, unnamed, unnamed, flight, flight, unnamed, unnamed},
		{impl.OpForge, last, last, unnamed, unnamed, impl.MaxBytes, unnamed},
	}
}

func rowOfKind(kind int) (opRow, bool) {
	for _, row := range opRows() {
		if row.kind == kind {
			return row, true
		}
	}
	return opRow{}, false
}

// A field as a number, by which it is held against its row: a text and a list by how long they are.
func fieldsOf(o impl.Op) [6]int { return [6]int{o.Node, o.To, o.A, o.B, len(o.Text), len(o.List)} }

func (r opRow) most() [6]int { return [6]int{r.node, r.to, r.a, r.b, r.text, r.list} }

func wantOpOk(o impl.Op) bool {
	row, ok := rowOfKind(o.Kind)
	if !ok {
		return false
	}
	for i, most := range row.most() {
		field := fieldsOf(o)[i]
		if most == unnamed && field != 0 || most != unnamed && !inRange(bigOf(field), 0, most) {
			return false
		}
	}
	beyond := func(n int) bool { return !inRange(bigOf(n), -impl.MaxPass, impl.MaxPass) }
	return !(row.to != unnamed && o.Node == o.To) && !slices.ContainsFunc(o.List, beyond)
}

// A world that an op moves on.
type doing struct {
	w    impl.World
	o    impl.Op
	told impl.Told
}

func wantWorldDo(w impl.World, o impl.Op) worldAnswer {
	if !wantWorldOk(w) || !wantOpOk(o) {
		return worldAnswer{code: impl.WorldBad}
	}
	no := worldAnswer{w: w, code: impl.WorldNo}
	row, _ := rowOfKind(o.Kind)
	if row.to != unnamed && !wantPlaceIn(w, o.To) || row.node != unnamed && !wantPlaceIn(w, o.Node) {
		return no
	}
	if row.node != unnamed && w.Liars[o.Node] && o.Kind != impl.OpForge || o.Kind == impl.OpForge && !w.Liars[o.Node] {
		return no
	}
	d := &doing{w: ownWorld(w), o: o, told: impl.Told{Kind: o.Kind, Node: o.Node}}
	called := d.called
	how := map[int]func() bool{
		impl.OpPass: d.passed, impl.OpBoot: called(toBoot), impl.OpCrash: called(toCrash), impl.OpFix: d.fixed, impl.OpAsk: called(toAsk),
		impl.OpTick: called(toTick), impl.OpFuse: d.fused, impl.OpRead: d.readings, impl.OpSend: d.sent, impl.OpDeliver: d.delivered,
		impl.OpDrop: d.mailed, impl.OpDouble: d.mailed, impl.OpMove: d.mailed, impl.OpForge: d.mailed,
	}
	if !how[o.Kind]() {
		return no
	}
	return worldAnswer{d.w, d.told, impl.WorldDone}
}

func (d *doing) passed() bool {
	now := plus(bigOf(d.w.Time), bigOf(d.o.A))
	if !bigTime(now) {
		return false
	}
	for i, count := range d.w.Counts {
		want := d.o.A
		if i < len(d.o.List) {
			want += d.o.List[i]
		}
		then := plus(bigOf(count), bigOf(wantClamp(d.w.Cfg.Drift, d.o.A, want).n))
		if !bigTime(then) {
			return false
		}
		d.w.Counts[i] = int(then.Int64())
	}
	d.w.Time = int(now.Int64())
	return true
}

// A call of the node at that place, which is then what the call tells.
func (d *doing) call(place int, q nodeCall) nodeAnswer {
	q.c, q.count = d.w.Cfg, d.w.Counts[place]
	told := q.want(d.w.Nodes[place])
	d.w.Nodes[place] = told.n
	return told
}

func (d *doing) posted(m impl.Msg) {
	if sent := wantSend(d.w.Net, m.From, m.To, string(wantPack(m)), d.w.Time); sent.code == impl.NetDone {
		d.w.Net = sent.net
	}
}

func (d *doing) called(kind int) func() bool {
	return func() bool {
		told := d.call(d.o.Node, nodeCall{kind: kind, other: d.o.To})
		d.told.Code = told.code
		if kind == toAsk && told.code == impl.NodeDone {
			d.told.Value = told.m.Nonce
			told.list = append(told.list, told.m)
		}
		for _, m := range told.list {
			d.posted(m)
		}
		return true
	}
}

func (d *doing) fixed() bool {
	lo, hi := less(bigOf(d.w.Time), bigOf(d.o.A)), plus(bigOf(d.w.Time), bigOf(d.o.B))
	a := answerOf(bigIval{lo, hi}, true)
	if a.ok {
		d.told.Code = d.call(d.o.Node, nodeCall{kind: toFix, a: a.a}).code
	}
	return a.ok
}

func wantLook(w impl.World, place int) impl.Look {
	now := nodeCall{kind: toNow, c: w.Cfg, count: w.Counts[place]}.want(w.Nodes[place])
	return impl.Look{Known: now.code == impl.NodeDone, Now: now.now}
}

func (d *doing) fused() bool {
	was := wantLook(d.w, d.o.Node)
	d.told.Code = d.call(d.o.Node, nodeCall{kind: toFuse}).code
	d.told.Known, d.told.Was, d.told.Now = was.Known, was.Now, wantLook(d.w, d.o.Node).Now
	return true
}

func (d *doing) readings() bool {
	l := wantLook(d.w, d.o.Node)
	told := d.call(d.o.Node, nodeCall{kind: toRead})
	d.told.Known, d.told.Now = l.Known, l.Now
	d.told.Code, d.told.Value, d.told.Holds = told.code, told.value, told.holds
	return true
}

func (d *doing) sent() bool {
	if len(d.w.Frames) == impl.MaxFrames {
		return false
	}
	told := d.call(d.o.Node, nodeCall{kind: toSend, body: d.o.Text})
	d.told.Code = told.code
	if told.code != impl.NodeDone {
		return true
	}
	d.told.Value = told.value
	least, most := wantTime(d.w.Cfg.Drift, d.w.Cfg.Long, -1), wantTime(d.w.Cfg.Drift, d.w.Cfg.Long, 1)
	long := min(max(d.o.A, least.n, 1), most.n)
	f := impl.Frame{From: d.o.Node, Slot: told.m.Slot, Round: told.value, Start: d.w.Time, End: d.w.Time + long, Body: d.o.Text}
	put := wantBusPut(d.w.Frames, f)
	d.w.Frames = put.list
	for place := range d.w.Nodes {
		if place != d.o.Node && !d.w.Liars[place] {
			d.call(place, nodeCall{kind: toGet, other: d.o.Node, b: wantPack(told.m)})
		}
	}
	return put.code == impl.BusDone
}

func (d *doing) delivered() bool {
	took := wantTake(d.w.Net, d.o.A)
	if took.code != impl.NetDone {
		return false
	}
	d.w.Net, d.told.Node = took.net, took.f.To
	if d.w.Liars[took.f.To] {
		d.told.Code = impl.NodeOff
		return true
	}
	told := d.call(took.f.To, nodeCall{kind: toGet, other: took.f.From, b: []byte(took.f.Bytes)})
	d.told.Code = told.code
	if told.m.Kind != 0 {
		d.posted(told.m)
	}
	return true
}

func (d *doing) mailed() bool {
	o, net := d.o, d.w.Net
	moved := map[int]func() netAnswer{
		impl.OpDrop:   func() netAnswer { return wantDrop(net, o.A) },
		impl.OpDouble: func() netAnswer { return wantDouble(net, o.A) },
		impl.OpMove:   func() netAnswer { return wantMove(net, o.A, o.B) },
		impl.OpForge:  func() netAnswer { return wantSend(net, o.Node, o.To, o.Text, d.w.Time) },
	}[o.Kind]()
	d.w.Net = moved.net
	return moved.code == impl.NetDone
}

func wantWorldRun(w impl.World, list []impl.Op) courseAnswer {
	then := courseAnswer{w: w}
	if len(list) > impl.MaxOps || !wantWorldOk(w) {
		return then
	}
	for _, o := range list {
		told := wantWorldDo(then.w, o)
		if told.code == impl.WorldDone {
			then.w = told.w
		}
		then.told, then.codes = append(then.told, told.told), append(then.codes, told.code)
	}
	return then
}

func wantLies(w impl.World) int {
	if !wantWorldOk(w) {
		return -1
	}
	return len(slices.DeleteFunc(slices.Clone(w.Liars), func(liar bool) bool { return !liar }))
}

func wantFalse(w impl.World) []int {
	var places []int
	for i := range w.Nodes {
		if wantWorldOk(w) && !w.Liars[i] && !wantNodeTrue(w.Cfg, w.Nodes[i], w.Counts[i], w.Time) {
			places = append(places, i)
		}
	}
	return places
}

func wantClean(w impl.World) bool {
	if !wantWorldOk(w) {
		return false
	}
	honest := slices.DeleteFunc(slices.Clone(w.Frames), func(f impl.Frame) bool { return w.Liars[f.From] })
	return len(wantClashes(honest)) == 0 && len(wantStray(w.Cfg.Plan, honest)) == 0
}

func wantLooks(w impl.World) []impl.Look {
	var list []impl.Look
	for i := range w.Nodes {
		if wantWorldOk(w) {
			list = append(list, wantLook(w, i))
		}
	}
	return list
}

func opPass(by int, list ...int) impl.Op { return impl.Op{Kind: impl.OpPass, A: by, List: list} }

// Of the kinds that have a Node alone.
func opOf(kind, node int) impl.Op { return impl.Op{Kind: kind, Node: node} }

func opFix(node, a, b int) impl.Op { return impl.Op{Kind: impl.OpFix, Node: node, A: a, B: b} }

func opAsk(node, to int) impl.Op { return impl.Op{Kind: impl.OpAsk, Node: node, To: to} }

func opSend(node, a int, text string) impl.Op {
	return impl.Op{Kind: impl.OpSend, Node: node, A: a, Text: text}
}

// Of the kinds that have a place in the mail alone.
func opAt(kind, a int) impl.Op { return impl.Op{Kind: kind, A: a} }

func opMove(a, b int) impl.Op { return impl.Op{Kind: impl.OpMove, A: a, B: b} }

func opForge(node, to int, text string) impl.Op {
	return impl.Op{Kind: impl.OpForge, Node: node, To: to, Text: text}
}

func opName(kind int) string {
	names := []string{"none", "pass", "boot", "crash", "fix", "ask", "tick", "fuse", "read", "send", "deliver", "drop", "double", "move", "forge"}
	if kind < 0 || kind >= len(names) {
		return strconv.Itoa(kind)
	}
	return names[kind]
}

// An op of each kind that is done in the town at the places and nodes that it has.
func opsDone() []impl.Op {
	return []impl.Op{
		opPass(7, 2, -3), opOf(impl.OpBoot, 4), opOf(impl.OpCrash, 0), opFix(0, 1, 2), opAsk(0, 1), opOf(impl.OpTick, 0), opOf(impl.OpFuse, 0),
		opOf(impl.OpRead, 0), opSend(0, 2, "body"), opAt(impl.OpDeliver, 0), opAt(impl.OpDrop, 1), opAt(impl.OpDouble, 2), opMove(3, 0), opForge(2, 0, "lie"),
	}
}

func packed(m impl.Msg) string { return string(wantPack(m)) }

// Eight nodes at 118, when node 0's slot of round 9 begins: 0, 1 and 7 are synchronised, 3 is cold, 4 is down, 5 holds over; 2 is a liar and down, 6 one that is up and false.
func town() impl.World {
	c := still()
	c.Lie = 2
	first := nodeWith(nodeIn(inSync), func(n *impl.Node) { n.Id, n.Local = 1, loc(109, 112, 34) })
	cold := nodeWith(nodeIn(inCold), func(n *impl.Node) { n.Id, n.Table = 3, tableOf(3, 3, ak(3000, 1, 30, 1), ak(3002, 6, 39, 2)) })
	down := nodeWith(nodeIn(inDown), func(n *impl.Node) { n.Id = 4 })
	hold := nodeWith(fullNode(inHold), func(n *impl.Node) {
		n.Id, n.Local, n.Table, n.App = 5, loc(100, 130, 60), tableOf(3, 9, ak(3001, 0, 21, 1)), had(140)
	})
	liar := nodeWith(nodeIn(inSync), func(n *impl.Node) { n.Id, n.Local = 6, loc(500, 501, 20) })
	last := nodeWith(nodeIn(inSync), func(n *impl.Node) { n.Id, n.Local = 7, loc(118, 118, 77) })
	net := netOf(20,
		fl(11, 3, 0, packed(probe(3, 0, 3001)), 100), fl(4, 1, 0, packed(reply(1, 0, 3001, iv(105, 107))), 110),
		fl(15, 2, 0, packed(reply(2, 0, 9, iv(1, 2))), 118), fl(2, 0, 6, packed(probe(0, 6, 3006)), 90),
		fl(7, 1, 4, packed(probe(1, 4, 3000)), 0), fl(19, 6, 5, "junk", 117))
	return impl.World{
		Cfg: c, Liars: []bool{false, false, true, false, false, false, true, false}, Time: 118, Counts: []int{30, 41, 7, 39, 25, 62, 21, 77},
		Nodes: []impl.Node{sender(), first, impl.NewNode(2), cold, down, hold, liar, last}, Net: net,
		Frames: bus(fm(0, 0, 8, 106, 108), fm(1, 1, 8, 113, 115)),
	}
}

func bools(list ...bool) []bool { return list }

// So many nodes, of which the last ones are liars.
func liarsOf(many, lies int) []bool {
	list := make([]bool, many)
	for i := many - lies; i < many; i++ {
		list[i] = true
	}
	return list
}

func newWorld(c impl.Cfg, many, lies int) impl.World {
	w, ok := wantNewWorld(c, liarsOf(many, lies))
	if !ok {
		panic("no world")
	}
	return w
}

// Worlds that are right, at each edge of what a world is.
func rightWorlds() map[string]impl.World {
	all := map[string]impl.World{"the town": town()}
	change := func(name string, by func(w *impl.World)) { all[name] = worldWith(town(), by) }
	for many := 1; many <= impl.MaxNodes; many++ {
		all["a new one of "+strconv.Itoa(many)] = newWorld(still(), many, many/2)
	}
	all["liars alone"] = newWorld(still(), 3, 3)
	change("no liars", func(w *impl.World) { w.Liars = liarsOf(8, 0) })
	change("more liars than settings bear", func(w *impl.World) { w.Liars, w.Cfg.Lie = liarsOf(8, 5), 1 })
	change("at the end of time", func(w *impl.World) { w.Time = far })
	change("counts at their end", func(w *impl.World) { w.Counts = slices.Repeat([]int{far}, 8) })
	change("just come", func(w *impl.World) { w.Counts[0], w.Counts[3], w.Counts[4], w.Counts[7] = 26, 39, 20, 77 })
	change("nothing under way", func(w *impl.World) { w.Net = netOf(0) })
	change("no Id left", func(w *impl.World) { w.Net.Next = impl.MaxFlightId })
	change("as many flights as may be", func(w *impl.World) { w.Net, w.Time = netWith(impl.MaxFlights), 1000 })
	change("a flight to itself", func(w *impl.World) { w.Net.List[0].From = 0 })
	change("no frames", func(w *impl.World) { w.Frames = nil })
	change("as many frames as may be", func(w *impl.World) { w.Frames, w.Time = busWith(impl.MaxFrames), 1000 })
	change("a frame that begins now", func(w *impl.World) { w.Frames = append(w.Frames, fm(7, 15, 3, 118, far)) })
	change("frames that clash and stray", func(w *impl.World) { w.Frames = bus(fm(3, 9, 8, 1, 40), fm(3, 8, 8, 1, 60)) })
	return all
}

// One that is none, in each of its ways.
func wrongWorlds() map[string]impl.World {
	all := map[string]impl.World{"the zero value": {}}
	change := func(name string, by func(w *impl.World)) { all[name] = worldWith(town(), by) }
	one, two := nodeWith(nodeIn(inSync), func(n *impl.Node) { n.Id = 8 }), newWorld(still(), 2, 0)
	change("one node more", func(w *impl.World) {
		w.Nodes, w.Liars, w.Counts = append(w.Nodes, one), append(w.Liars, false), append(w.Counts, 90)
	})
	change("no nodes", func(w *impl.World) { w.Nodes, w.Liars, w.Counts, w.Net, w.Frames = nil, nil, nil, netOf(0), nil })
	change("a node less", func(w *impl.World) { w.Nodes = w.Nodes[:7] })
	change("a liar less", func(w *impl.World) { w.Liars = w.Liars[:7] })
	change("a count less", func(w *impl.World) { w.Counts = w.Counts[:7] })
	change("a liar more", func(w *impl.World) { w.Liars = append(w.Liars, true) })
	change("a count more", func(w *impl.World) { w.Counts = append(w.Counts, 90) })
	change("no liars at all", func(w *impl.World) { w.Liars = nil })
	change("no counts at all", func(w *impl.World) { w.Counts = nil })
	for _, time := range []int{math.MinInt, -far, -1, far + 1, math.MaxInt} {
		change("the time "+strconv.Itoa(time), func(w *impl.World) { w.Time = time })
		change("the count "+strconv.Itoa(time), func(w *impl.World) { w.Counts[2] = time })
	}
	change("two nodes in each other's place", func(w *impl.World) { w.Nodes[0], w.Nodes[1] = w.Nodes[1], w.Nodes[0] })
	change("a node twice", func(w *impl.World) { w.Nodes[2] = impl.NewNode(4) })
	for i := range impl.MaxNodes {
		change("a node that is none at "+strconv.Itoa(i), func(w *impl.World) { w.Nodes[i].Sent = -2 })
		change("the zero node at "+strconv.Itoa(i), func(w *impl.World) { w.Nodes[i] = impl.Node{} })
		// The liar that is down has come to every count.
		if i != 2 {
			change("a count not come to at "+strconv.Itoa(i), func(w *impl.World) { w.Counts[i] = w.Nodes[i].Life.Since - 1 })
		}
	}
	change("a count one below", func(w *impl.World) { w.Counts[0] = 25 })
	change("a flight of later", func(w *impl.World) { w.Net.List[5].At = 119 })
	change("a time ahead of a flight", func(w *impl.World) { w.Time = 117 })
	change("a flight twice", func(w *impl.World) { w.Net.List[1].Id = 11 })
	change("a flight of the next Id", func(w *impl.World) { w.Net.List[1].Id = 20 })
	change("a flight of many bytes", func(w *impl.World) { w.Net.List[1].Bytes = strings.Repeat("x", impl.MaxBytes+1) })
	change("too many flights", func(w *impl.World) { w.Net, w.Time = netWith(impl.MaxFlights+1), 1000 })
	change("no next Id", func(w *impl.World) { w.Net.Next = impl.MaxFlightId + 1 })
	change("a frame of later", func(w *impl.World) { w.Frames = append(w.Frames, fm(0, 0, 9, 119, 121)) })
	change("a frame that is none", func(w *impl.World) { w.Frames[1].End = 113 })
	change("frames out of order", func(w *impl.World) { w.Frames[1].Start = 105 })
	change("too many frames", func(w *impl.World) { w.Frames, w.Time = busWith(impl.MaxFrames+1), 1000 })
	// Of two nodes a third is no place, though it is a node.
	all["a flight from nobody"] = worldWith(two, func(w *impl.World) { w.Net = netOf(1, fl(0, 2, 1, "", 0)) })
	all["a flight to nobody"] = worldWith(two, func(w *impl.World) { w.Net = netOf(1, fl(0, 1, 2, "", 0)) })
	all["a frame of nobody"] = worldWith(two, func(w *impl.World) { w.Frames = bus(fm(2, 0, 0, 0, 1)) })
	for name, c := range wrongCfgs() {
		change("settings, "+name, func(w *impl.World) { w.Cfg = c })
	}
	return all
}

// Ops that are right, at each edge of each of their fields.
func rightOps() []impl.Op {
	all := opsDone()
	for _, row := range opRows() {
		for _, greatest := range []func(most int) int{
			func(most int) int { return 0 }, func(most int) int { return 1 }, func(most int) int { return most - 1 }, func(most int) int { return most },
		} {
			o := impl.Op{Kind: row.kind}
			put := func(field *int, most int) {
				if most != unnamed {
					*field = greatest(most)
				}
			}
			put(&o.Node, row.node)
			put(&o.A, row.a)
			put(&o.B, row.b)
			if row.to != unnamed {
				o.To = (o.Node + 3) % impl.MaxNodes
			}
			if row.text != unnamed {
				o.Text = strings.Repeat("\xff", greatest(row.text))
			}
			if row.list != unnamed {
				o.List = slices.Repeat([]int{impl.MaxPass, -impl.MaxPass, 0, 1, -1}, 2)[:greatest(row.list)]
			}
			all = append(all, o)
		}
	}
	return all
}

// Of each right op one that is none, in each of its ways.
func wrongOps() map[string]impl.Op {
	all := map[string]impl.Op{"the zero value": {}}
	for _, kind := range []int{math.MinInt, -1, 0, 15, 16, 64, 257, 1<<32 + 1, math.MaxInt} {
		all["the kind "+strconv.Itoa(kind)] = impl.Op{Kind: kind}
	}
	for i, o := range opsDone() {
		row, name := opRows()[i], opName(o.Kind)
		numbers := func(what string, most int, put func(o *impl.Op, n int)) {
			for _, n := range []int{math.MinInt, -1, max(most, 0) + 1, math.MaxInt} {
				wrong := o
				put(&wrong, n)
				all[name+", "+what+" "+strconv.Itoa(n)] = wrong
			}
		}
		numbers("Node", row.node, func(o *impl.Op, n int) { o.Node = n })
		numbers("To", row.to, func(o *impl.Op, n int) { o.To = n })
		numbers("A", row.a, func(o *impl.Op, n int) { o.A = n })
		numbers("B", row.b, func(o *impl.Op, n int) { o.B = n })
		long, many := o, o
		long.Text, many.List = strings.Repeat("x", max(row.text, 0)+1), make([]int, max(row.list, 0)+1)
		all[name+", a Text too long"], all[name+", a List too long"] = long, many
		if row.to != unnamed {
			self := o
			self.To = self.Node
			all[name+", to itself"] = self
		}
	}
	for _, n := range []int{math.MinInt, -impl.MaxPass - 1, impl.MaxPass + 1, math.MaxInt} {
		for place := range impl.MaxNodes {
			list := make([]int, impl.MaxNodes)
			list[place] = n
			all["a List with "+strconv.Itoa(n)+" at "+strconv.Itoa(place)] = opPass(5, list...)
		}
	}
	return all
}
