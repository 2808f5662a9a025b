package tests

import (
	"fmt"
	"math"
	"runtime"
	"slices"
	"strings"
	"sync"
	"testing"
	"unsafe"

	"loop.example/g00072/impl"
)

// Any world, of nodes drawn each by itself, whether what they know is so or not.
func (l *lottery) world() impl.World {
	many := 1 + l.number(impl.MaxNodes)
	_, now := l.standing()
	w := impl.World{Cfg: l.cfg(), Time: now}
	for i := range many {
		count, _ := l.standing()
		n := l.nodeAt(i, count, now)
		liar := l.number(4) == 0
		// Most liars are as a new world has them.
		if liar && l.number(3) > 0 {
			n = impl.NewNode(i)
		}
		w.Liars, w.Counts, w.Nodes = append(w.Liars, liar), append(w.Counts, count), append(w.Nodes, n)
	}
	w.Net = l.netFor(w)
	frames := []int{l.number(5), l.number(5), l.number(5), impl.MaxFrames - 1, impl.MaxFrames}[l.number(5)]
	for _, f := range l.frames(frames, 1+min(now, 100), 12) {
		f.From %= many
		w.Frames = append(w.Frames, f)
	}
	return w
}

// Flights among its nodes, to most of which somebody may have an answer.
func (l *lottery) netFor(w impl.World) impl.Net {
	many := []int{l.number(6), l.number(6), l.number(6), impl.MaxFlights - 1, impl.MaxFlights}[l.number(5)]
	var n impl.Net
	for range many {
		to := l.number(len(w.Nodes))
		m, from := l.message(w.Cfg, w.Nodes[to], w.Time)
		n.List = append(n.List, fl(n.Next+l.number(3), from%len(w.Nodes), to, string(l.bytesOf(m)), max(0, w.Time-l.number(40))))
		n.Next = n.List[len(n.List)-1].Id + 1
	}
	switch l.number(12) {
	case 0:
		n.Next = impl.MaxFlightId
	case 1:
		n.Next = impl.MaxFlightId - 1
	}
	return n
}

// A liar if one is wanted, or one that is none, where the world has such a node; now and then any node at all.
func (l *lottery) placeIn(w impl.World, liar bool) int {
	for range 20 {
		if place := l.number(len(w.Nodes)); w.Liars[place] == liar {
			return place
		}
	}
	return l.number(impl.MaxNodes)
}

// A place of the mail, mostly one where a flight is.
func (l *lottery) flightIn(w impl.World) int {
	if len(w.Net.List) == 0 || l.number(12) == 0 {
		return l.number(impl.MaxFlights)
	}
	return l.number(len(w.Net.List))
}

// How far from what passes the nodes would like to count: all fast, all slow, right, or each as it comes.
func (l *lottery) skews() []int {
	ways := [][]int{{impl.MaxPass}, {-impl.MaxPass}, {impl.MaxPass, -impl.MaxPass}, {0}, {impl.MaxPass, -impl.MaxPass, -2, -1, 0, 1, 2}}
	way := ways[l.number(len(ways))]
	list := make([]int, l.number(impl.MaxNodes+1))
	for i := range list {
		list[i] = way[l.number(len(way))]
	}
	return list
}

// An op of that kind that the world may do, mostly.
func (l *lottery) op(kind int, w impl.World) impl.Op {
	o := impl.Op{Kind: kind}
	row, _ := rowOfKind(kind)
	if row.node != unnamed {
		o.Node = l.placeIn(w, kind == impl.OpForge != (l.number(16) == 0))
		if l.number(30) == 0 {
			o.Node = l.number(impl.MaxNodes)
		}
	}
	if row.to != unnamed {
		o.To = l.number(len(w.Nodes))
		if o.To == o.Node || l.number(20) == 0 {
			o.To = (o.Node + 1 + l.number(impl.MaxNodes-1)) % impl.MaxNodes
		}
	}
	switch kind {
	case impl.OpPass:
		o.A, o.List = []int{0, 1, 2, 5, 9, 30, impl.MaxPass}[l.number(7)], l.skews()
	case impl.OpFix:
		o.A, o.B = l.number(12), l.number(12)
	case impl.OpSend:
		o.A, o.Text = l.number(8), strings.Repeat("x", l.number(impl.MaxBody+1))
	case impl.OpDeliver, impl.OpDrop, impl.OpDouble:
		o.A = l.flightIn(w)
	case impl.OpMove:
		o.A, o.B = l.flightIn(w), l.flightIn(w)
	case impl.OpForge:
		o.Text = l.forgery(w, o.Node, o.To)
	}
	return o
}

// What a liar may say to a node: an answer to what that has asked it, mostly, with what is so or beside it.
func (l *lottery) forgery(w impl.World, liar, to int) string {
	if to >= len(w.Nodes) {
		return "x"
	}
	n := w.Nodes[to]
	asked := slices.DeleteFunc(slices.Clone(n.Table.Asks), func(a impl.Ask) bool { return a.To != liar })
	if len(asked) == 0 || l.number(6) == 0 {
		m, _ := l.message(w.Cfg, n, w.Time)
		return string(l.bytesOf(m))
	}
	said := l.beside(w.Time, 40)
	switch l.number(6) {
	case 0:
		said = l.around(w.Time, 12)
	case 1:
		said = iv(-far, far)
	case 2:
		said = iv(w.Time-100-l.number(400), w.Time-1)
	case 3:
		// Beside true time, but within what the node holds for possible.
		if now := wantLook(w, to); now.Known {
			said = []impl.Ival{iv(now.Now.Lo, now.Now.Lo), iv(now.Now.Hi, now.Now.Hi)}[l.number(2)]
		}
	}
	// Half of the time liars mostly say the same.
	if w.Time/60%2 == 0 && l.number(5) > 0 {
		said = iv(min(w.Time/60*60+90, far), min(w.Time/60*60+95, far))
	}
	return packed(reply(liar, to, asked[l.number(len(asked))].Nonce, said))
}

// One that the document rules out, or a world that is none.
func (l *lottery) spoiledOp(o impl.Op) impl.Op {
	switch l.number(5) {
	case 0:
		o.Kind = []int{0, -1, 15, math.MaxInt}[l.number(4)]
	case 1:
		o.Node = []int{-1, impl.MaxNodes, math.MinInt}[l.number(3)]
	case 2:
		o.A = []int{-1, impl.MaxPass + 1, math.MinInt}[l.number(3)]
	case 3:
		o.Text = strings.Repeat("x", impl.MaxBytes+1)
	case 4:
		o.List = append(slices.Clone(o.List), impl.MaxPass+1)
	}
	return o
}

// What the node's calls may tell within a world, by the kind of the op.
func codesOfOp(kind int) []int {
	call, ok := map[int]int{
		impl.OpBoot: toBoot, impl.OpCrash: toCrash, impl.OpFix: toFix, impl.OpAsk: toAsk, impl.OpTick: toTick,
		impl.OpFuse: toFuse, impl.OpRead: toRead, impl.OpSend: toSend, impl.OpDeliver: toGet,
	}[kind]
	if !ok {
		return []int{impl.NodeDone}
	}
	return slices.DeleteFunc(slices.Clone(codesOf(call)), func(code int) bool { return code == impl.NodeBad })
}

func TestWorldsAsTheDocumentSays(t *testing.T) {
	draw := &lottery{state: 191}
	var told [15][15]int
	var codes [15][3]int
	for range 1500 {
		w := draw.world()
		if !impl.WorldOk(w) || !wantWorldOk(w) {
			t.Fatal("the draw is no world", w)
		}
		for _, row := range opRows() {
			o := draw.op(row.kind, w)
			if draw.number(20) == 0 {
				o = draw.spoiledOp(o)
			}
			got, want := doOp(w, o), wantWorldDo(w, o)
			if !sameWorldAnswer(got, want) {
				t.Fatalf("%s of %v by %v:\ngot  %v\nwant %v", opName(row.kind), w, o, got, want)
			}
			codes[row.kind][got.code]++
			if got.code == impl.WorldDone {
				told[row.kind][got.told.Code]++
			}
		}
		checkWorldFalse(t, w, wantFalse(w)...)
		checkClean(t, w, wantClean(w))
		checkLooks(t, w, wantLooks(w)...)
		checkLies(t, w, wantLies(w))
	}
	for _, row := range opRows() {
		for code, many := range codes[row.kind] {
			if many < 15 {
				t.Errorf("%s tells %d in %d ops", opName(row.kind), code, many)
			}
		}
		for code, many := range told[row.kind] {
			if may := slices.Contains(codesOfOp(row.kind), code); may != (many > 0) {
				t.Errorf("%s tells of %d in %d ops", opName(row.kind), code, many)
			}
		}
	}
}

// P19 of one op, whatever the world: what is not done changes nothing and tells nothing; time that passes moves nothing but counts, each within its drift; all else leaves time alone, and of the nodes changes none but whom it is for.
func checkOneOp(t *testing.T, w impl.World, o impl.Op) worldAnswer {
	t.Helper()
	got := doOp(w, o)
	failed := func(what string) {
		t.Helper()
		t.Fatalf("%s: %s of %v by %v tells %v", what, opName(o.Kind), w, o, got)
	}
	switch {
	case got.code == impl.WorldBad:
		if impl.WorldOk(w) && impl.OpOk(o) || !sameWorldAnswer(got, worldAnswer{code: impl.WorldBad}) {
			failed("bad")
		}
		return got
	case !impl.WorldOk(w) || !impl.OpOk(o):
		failed("what is bad is not told so")
	case got.code == impl.WorldNo:
		if !sameWorldAnswer(got, worldAnswer{w: w, code: impl.WorldNo}) {
			failed("it was not undone")
		}
		return got
	case got.code != impl.WorldDone || got.told.Kind != o.Kind || !sameCfg(got.w.Cfg, w.Cfg) || !slices.Equal(got.w.Liars, w.Liars):
		failed("another world")
	case o.Kind == impl.OpPass:
		checkPassed(t, w, o, got)
	case got.w.Time != w.Time || !slices.Equal(got.w.Counts, w.Counts):
		failed("time passed")
	}
	for i, n := range w.Nodes {
		changed := !sameNode(n, got.w.Nodes[i])
		itsOwn := o.Kind == impl.OpSend || i == got.told.Node && o.Kind != impl.OpForge && o.Kind < impl.OpDrop
		if changed && (w.Liars[i] || !itsOwn || got.told.Code != impl.NodeDone && got.told.Code != impl.NodeOver) {
			failed("a node that it is not for is changed")
		}
	}
	return got
}

func checkPassed(t *testing.T, w impl.World, o impl.Op, got worldAnswer) {
	t.Helper()
	then := ownWorld(w)
	then.Time, then.Counts = w.Time+o.A, got.w.Counts
	if !sameWorldAnswer(got, worldAnswer{then, impl.Told{Kind: impl.OpPass}, impl.WorldDone}) {
		t.Fatalf("%v passes for %v: %v", o, w, got)
	}
	for i, count := range w.Counts {
		counted, want := got.w.Counts[i]-count, o.A
		if i < len(o.List) {
			want += o.List[i]
		}
		near := func(to int) bool { return impl.MayCount(w.Cfg.Drift, o.A, counted+to) }
		// As near to what it would like to count as its drift lets it.
		if !near(0) || counted < want && near(1) || counted > want && near(-1) {
			t.Fatalf("%v passes for %v: %d counts %d", o, w, i, counted)
		}
	}
}

// P19 over drawn worlds of any sort, each op by itself.
func TestWhatCannotBeDoneChangesNothing(t *testing.T) {
	draw := &lottery{state: 192}
	var codes [15][3]int
	for range 8000 {
		w := draw.world()
		kind := 1 + draw.number(14)
		o := draw.op(kind, w)
		switch draw.number(20) {
		case 0:
			o = draw.spoiledOp(o)
		case 1:
			w.Time = far + 1
		}
		codes[kind][checkOneOp(t, w, o).code]++
	}
	for kind := 1; kind <= impl.OpForge; kind++ {
		for code, many := range codes[kind] {
			if many < 5 {
				t.Errorf("%s tells %d in %d ops", opName(kind), code, many)
			}
		}
	}
}

// A world that ops are done in, one behind the other, from a new world on with no more liars than its settings bear.
type history struct {
	t    *testing.T
	draw *lottery
	from impl.World
	w    impl.World
	ops  []impl.Op
	told []impl.Told
	code []int
	done map[string]int
}

func begin(t *testing.T, draw *lottery, w impl.World, done map[string]int) *history {
	return &history{t: t, draw: draw, from: w, w: w, done: done}
}

// P19 behind one op: it is a world still, nobody who is no liar is false, and the bus is clean.
func (h *history) do(o impl.Op) worldAnswer {
	h.t.Helper()
	got := checkOneOp(h.t, h.w, o)
	h.ops, h.told, h.code = append(h.ops, o), append(h.told, got.told), append(h.code, got.code)
	if got.code != impl.WorldDone {
		return got
	}
	was := h.w
	h.w = got.w
	if wrong := impl.WorldFalse(h.w); len(wrong) > 0 || !impl.WorldOk(h.w) || !impl.WorldClean(h.w) {
		h.t.Fatalf("false are %v behind %v:\n%v\n%v", wrong, o, was, h.w)
	}
	if got.told.Code == impl.NodeDone {
		h.done[opName(o.Kind)]++
	}
	h.look(was, o, got)
	return got
}

// What was done by it that the promise hangs on, to be sure that it came.
func (h *history) look(was impl.World, o impl.Op, got worldAnswer) {
	switch {
	case got.told.Code != impl.NodeDone:
	case o.Kind == impl.OpFuse:
		lies := liesTo(was, o.Node)
		if len(lies) > 0 {
			h.done["fused beside a lie"]++
		}
		if _, alike := impl.MeetAll(lies); alike && len(lies) > 1 {
			h.done["fused beside liars who agree"]++
		}
		if got.told.Known && got.told.Now != got.told.Was {
			h.done["narrowed"]++
		}
	case o.Kind == impl.OpDeliver && was.Liars[was.Net.List[o.A].From]:
		h.done["a liar's word taken"]++
	case o.Kind == impl.OpSend && len(was.Frames) > 0:
		h.done["another frame"]++
	}
}

// What liars told a node that is not so now, of what it would fuse.
func liesTo(w impl.World, node int) []impl.Ival {
	var lies []impl.Ival
	for _, p := range w.Nodes[node].Peers {
		now, code := impl.NodeNow(w.Cfg, nodeKnowing(node, p), w.Counts[node])
		if w.Liars[p.Id] && code == impl.NodeDone && !impl.Holds(now, w.Time) && w.Counts[node]-p.At <= w.Cfg.Age {
			lies = append(lies, now)
		}
	}
	return lies
}

// A node that knows what a source said.
func nodeKnowing(id int, p impl.Peer) impl.Node {
	return impl.Node{Id: id, Life: lf(inSync, 1, 0), Table: tableOf(1, 0), Local: impl.Local{Known: true, Bound: p.Bound, At: p.At}, Sent: -1}
}

// P19: the run of all that was done is the same as each op behind the other, however it is cut.
func (h *history) runAgain() {
	h.t.Helper()
	want := courseAnswer{h.w, h.told, h.code}
	at := courseAnswer{w: h.from}
	for left := h.ops; len(left) > 0; {
		n := min(len(left), impl.MaxOps-h.draw.number(40))
		next := runOps(at.w, left[:n])
		at = courseAnswer{next.w, append(at.told, next.told...), append(at.codes, next.codes...)}
		left = left[n:]
	}
	if !sameCourse(at, want) {
		h.t.Fatalf("the run of %v by %v is %v, and not %v", h.from, h.ops, at, want)
	}
}

// What is done most is most often in the row; a node that is down boots soon.
func (h *history) next() impl.Op {
	kinds := []int{
		impl.OpPass, impl.OpPass, impl.OpAsk, impl.OpDeliver, impl.OpDeliver, impl.OpDeliver, impl.OpForge, impl.OpFuse, impl.OpSend, impl.OpSend,
		impl.OpRead, impl.OpTick, impl.OpDrop, impl.OpDouble, impl.OpMove, impl.OpFix, impl.OpBoot,
	}
	kind := kinds[h.draw.number(len(kinds))]
	if h.draw.number(60) == 0 {
		kind = impl.OpCrash
	}
	o := h.draw.op(kind, h.w)
	if kind == impl.OpPass {
		o.A = []int{0, 1, 1, 2, 3, 5, 9, 20}[h.draw.number(8)]
	}
	if h.draw.number(60) == 0 {
		o = h.draw.spoiledOp(o)
	}
	return o
}

func (h *history) passes(by int) { h.do(opPass(by, h.draw.skews()...)) }

// The flight that was posted last comes, unless it is lost or comes twice.
func (h *history) lastComes() {
	last := len(h.w.Net.List) - 1
	if last < 0 {
		return
	}
	switch h.draw.number(16) {
	case 0:
		h.do(opAt(impl.OpDrop, last))
		return
	case 1:
		h.do(opAt(impl.OpDouble, last))
	case 2:
		h.do(opMove(last, h.draw.number(last+1)))
	}
	h.do(opAt(impl.OpDeliver, last))
}

// A node asks many others, whose answers come soon; liars answer without a look at what was asked. Then it fuses what it has got.
func (h *history) talks() {
	node := h.draw.placeIn(h.w, false)
	for i := range h.w.Nodes {
		to := (node + 1 + i) % len(h.w.Nodes)
		if to == node || h.draw.number(6) == 0 {
			continue
		}
		h.do(opAsk(node, to))
		h.passes(h.draw.number(3))
		if h.w.Liars[to] {
			h.do(opForge(to, node, h.draw.forgery(h.w, to, node)))
		} else {
			h.lastComes()
		}
		h.passes(h.draw.number(3))
		h.lastComes()
	}
	h.do(opOf(impl.OpFuse, node))
	// What nobody takes any more makes room for others.
	for len(h.w.Net.List) > 25 {
		h.do(opAt(impl.OpDrop, h.draw.flightIn(h.w)))
	}
}

// Time goes on to about where a node's next slot begins, and it sends there.
func (h *history) turns() {
	node := h.draw.placeIn(h.w, false)
	_, at, ok := impl.NextOwn(h.w.Cfg.Plan, node, h.w.Time)
	if ok && at-h.w.Time < 200 {
		h.passes(at - h.w.Time + h.draw.number(12))
	}
	for range 3 {
		h.do(opSend(node, h.draw.number(6), "x"))
		h.passes(h.draw.number(6))
	}
}

func (h *history) live(steps int) {
	for range steps {
		switch h.draw.number(6) {
		case 0:
			h.talks()
		case 1:
			h.turns()
		default:
			h.do(h.next())
		}
	}
	h.runAgain()
}

// Few nodes lie, and all slots are those of the others; slots are long enough to be sent in.
func (l *lottery) newTown(d impl.Drift, lie int) impl.World {
	many := 2 + lie + l.number(impl.MaxNodes-1-lie)
	c := impl.Cfg{
		Drift: d, Lie: lie, Least: 1 + l.number(2), Patience: 5 + l.number(20), Age: 10 + l.number(60), Keep: 5 + l.number(20), Long: 1 + l.number(3),
		Plan: l.plan(1+l.number(6), many, 40, 4, 40),
	}
	for i := range c.Plan.Slots {
		c.Plan.Slots[i].Long += 15
	}
	// Mostly as many liars as are borne, anywhere among the others.
	lies := []int{lie, lie, l.number(lie + 1)}[l.number(3)]
	liars := make([]bool, many)
	for left := lies; left > 0; {
		if place := l.number(many); !liars[place] {
			liars[place] = true
			left--
		}
	}
	w, ok := impl.NewWorld(c, liars)
	if !ok {
		panic("no world")
	}
	return w
}

// Who is no liar boots, and is told what time it is, more or less.
func (h *history) rises() {
	for place, liar := range h.w.Liars {
		if !liar {
			h.do(opOf(impl.OpBoot, place))
			h.do(opFix(place, h.draw.number(20), h.draw.number(20)))
		}
	}
}

func TestAWorldWithFewLiarsIsNeverFalse(t *testing.T) {
	draw, done := &lottery{state: 193}, map[string]int{}
	for _, d := range []impl.Drift{dr(0, 1), dr(1, 2), dr(1, 9), dr(1, 100), dr(1, impl.MaxDen)} {
		for lie := range 4 {
			for range 5 {
				h := begin(t, draw, draw.newTown(d, lie), done)
				h.rises()
				h.live(200)
			}
		}
	}
	for kind := 1; kind <= impl.OpForge; kind++ {
		if done[opName(kind)] < 150 {
			t.Error("too few", opName(kind), done)
		}
	}
	for _, name := range []string{"fused beside a lie", "fused beside liars who agree", "narrowed", "a liar's word taken", "another frame"} {
		if done[name] < 150 {
			t.Error("too few", name, done)
		}
	}
}

// The same from worlds that are new but for their time and counts, so that time or counts end within the run.
func TestAWorldAtTheEndOfTimeIsNeverFalse(t *testing.T) {
	draw, done := &lottery{state: 194}, map[string]int{}
	for _, d := range []impl.Drift{dr(0, 1), dr(1, 2), dr(1, 1000)} {
		for lie := range 3 {
			for round := range 8 {
				w := draw.newTown(d, lie)
				w.Cfg.Plan.Start = []int{far - 900, 7}[round%2]
				w.Time = far - 200 - draw.number(400)
				for i := range w.Counts {
					w.Counts[i] = []int{0, far/2 - draw.number(500), far - 300 - draw.number(900)}[draw.number(3)]
				}
				h := begin(t, draw, w, done)
				h.rises()
				h.live(150)
				for i, o := range h.ops {
					if o.Kind == impl.OpPass && h.code[i] == impl.WorldNo {
						done["time ended"]++
					}
				}
			}
		}
	}
	for _, name := range []string{"time ended", "send", "fuse", "fix", "deliver", "fused beside a lie"} {
		if done[name] < 50 {
			t.Error("too few", name, done)
		}
	}
}

// P19 over every run of few ops of a palette, from new worlds on and from such that ask each other already; what was come to once is not followed again.
func TestEveryRunOfFewOps(t *testing.T) {
	c := cfgWith(func(c *impl.Cfg) { c.Drift, c.Lie, c.Plan = dr(1, 3), 1, planOf(3, 1, sl(0, 9), sl(1, 9)) })
	lie, truth := packed(reply(2, 0, 1000, iv(40, 41))), packed(reply(2, 0, 1000, iv(0, 3)))
	palette := []impl.Op{
		opPass(3, 9, -9), opPass(3, -9, 9), opOf(impl.OpBoot, 0), opOf(impl.OpBoot, 1), opFix(1, 1, 0), opFix(0, 0, 2), opAsk(0, 1), opAsk(0, 2), opOf(impl.OpFuse, 0),
		opSend(0, 0, "a"), opSend(1, 9, "b"), opAt(impl.OpDeliver, 0), opAt(impl.OpDeliver, 1), opAt(impl.OpDouble, 0), opForge(2, 0, lie), opForge(2, 0, truth),
		opOf(impl.OpCrash, 0), opOf(impl.OpTick, 0), opOf(impl.OpRead, 0),
	}
	for _, liars := range [][]bool{{false, false, true}, {false, false}} {
		start, ok := impl.NewWorld(c, liars)
		if !ok {
			t.Fatal("no world")
		}
		asking := []impl.Op{opOf(impl.OpBoot, 0), opOf(impl.OpBoot, 1), opFix(0, 1, 1), opFix(1, 0, 0), opAsk(0, 1), opAsk(0, 2), opAt(impl.OpDeliver, 0)}
		checkRunsFrom(t, start, palette, 5)
		checkRunsFrom(t, runOps(start, asking).w, palette, 5)
	}
}

// Each run of that many ops at most.
func checkRunsFrom(t *testing.T, from impl.World, palette []impl.Op, most int) {
	t.Helper()
	seen, row := map[string]bool{}, []impl.World{from}
	for range most {
		var next []impl.World
		for _, w := range row {
			for _, o := range palette {
				got := checkOneOp(t, w, o)
				if got.code == impl.WorldBad || !impl.WorldOk(got.w) || len(impl.WorldFalse(got.w)) > 0 || !impl.WorldClean(got.w) {
					t.Fatalf("%v by %v: %v", w, o, got)
				}
				if key := fmt.Sprint(got.w); !seen[key] {
					seen[key] = true
					next = append(next, got.w)
				}
			}
		}
		row = next
	}
	if len(seen) < 1000 {
		t.Fatal("too few", len(seen))
	}
}

// P19: a run is its ops one behind the other, over drawn worlds; cut anywhere its halves are the whole.
func TestARunIsItsOpsOneBehindTheOther(t *testing.T) {
	draw := &lottery{state: 195}
	for range 400 {
		w := draw.world()
		var list []impl.Op
		at := courseAnswer{w: w}
		for range draw.number(25) {
			o := draw.op(1+draw.number(14), at.w)
			if draw.number(15) == 0 {
				o = draw.spoiledOp(o)
			}
			list = append(list, o)
			got := doOp(at.w, o)
			if got.code == impl.WorldDone {
				at.w = got.w
			}
			at.told, at.codes = append(at.told, got.told), append(at.codes, got.code)
		}
		if got := runOps(w, list); !sameCourse(got, at) {
			t.Fatalf("the run of %v by %v:\ngot  %v\nwant %v", w, list, got, at)
		}
		cut := draw.number(len(list) + 1)
		first := runOps(w, list[:cut])
		if !impl.WorldOk(first.w) {
			continue
		}
		second := runOps(first.w, list[cut:])
		whole := courseAnswer{second.w, append(first.told, second.told...), append(first.codes, second.codes...)}
		if !sameCourse(whole, at) {
			t.Fatalf("the run of %v by %v, cut at %d: %v", w, list, cut, whole)
		}
	}
}

// Node 0 asks all others, of which the liars say that it is 500 and node 1, where liars may be borne, that it is 0; it fuses what it has got, and sends when its slot has come by what it knows.
func believing(lie, lies int) impl.World {
	many := 2 + lies
	if lie == 0 {
		many = 1 + lies
	}
	w, _ := impl.NewWorld(cfgWith(func(c *impl.Cfg) { c.Lie = lie }), liarsOf(many, lies))
	list := []impl.Op{opOf(impl.OpBoot, 0), opOf(impl.OpBoot, 1), opFix(1, 0, 0)}
	for to := 1; to < len(w.Nodes); to++ {
		list = append(list, opAsk(0, to))
		if w.Liars[to] {
			list = append(list, opForge(to, 0, packed(reply(to, 0, 999+to, iv(500, 500)))))
		}
	}
	w = runOps(w, list).w
	for len(w.Net.List) > 0 {
		w = runOps(w, []impl.Op{opAt(impl.OpDeliver, 0)}).w
	}
	return runOps(w, []impl.Op{opOf(impl.OpFuse, 0), opPass(3), opSend(0, 2, "x")}).w
}

// Beyond what the promise is of: one liar more than the settings bear is believed, and what is sent by it strays. As many as they bear are not.
func TestOneLiarTooManyIsBelieved(t *testing.T) {
	for lie := range 4 {
		w := believing(lie, lie+1)
		checkWorldFalse(t, w, 0)
		checkClean(t, w, false)
		checkLooks(t, w, append(looks(look(503, 503)), wantLooks(w)[1:]...)...)
		if lie > 0 {
			w = believing(lie, lie)
			checkWorldFalse(t, w)
			checkClean(t, w, true)
			checkLooks(t, w, append(looks(look(3, 503)), wantLooks(w)[1:]...)...)
		}
	}
}

// A world whose lists have room behind them that is none of theirs, and a look at all of it.
func roomyWorld(w impl.World) (impl.World, func() impl.World) {
	all := ownWorld(w)
	rooms := make([]func() impl.Node, len(w.Nodes))
	for i, n := range w.Nodes {
		all.Nodes[i], rooms[i] = roomyNode(n)
	}
	all.Cfg.Plan.Slots = append(all.Cfg.Plan.Slots, sl(-7, -7), sl(3, 5))
	all.Liars, all.Counts, all.Nodes = append(all.Liars, true, false), append(all.Counts, -7, 9), append(all.Nodes, nodeIn(inHold), impl.Node{})
	all.Net.List, all.Frames = append(all.Net.List, fl(-7, -7, -7, "spare", -7)), append(all.Frames, fm(-7, -7, -7, -7, -7))
	roomy := all
	roomy.Cfg.Plan.Slots, roomy.Liars, roomy.Counts = all.Cfg.Plan.Slots[:len(w.Cfg.Plan.Slots)], all.Liars[:len(w.Liars)], all.Counts[:len(w.Counts)]
	roomy.Nodes, roomy.Net.List, roomy.Frames = all.Nodes[:len(w.Nodes)], all.Net.List[:len(w.Net.List)], all.Frames[:len(w.Frames)]
	return roomy, func() impl.World {
		whole := all
		whole.Nodes = slices.Clone(all.Nodes)
		for i, room := range rooms {
			n := room()
			whole.Nodes[i].Table.Asks, whole.Nodes[i].Peers, whole.Nodes[i].Heard = n.Table.Asks, n.Peers, n.Heard
		}
		return whole
	}
}

// The memory of a list, with the room behind it.
type region struct {
	name     string
	from, to uintptr
}

func regionOf[T any](name string, list []T) region {
	from := uintptr(unsafe.Pointer(unsafe.SliceData(list)))
	return region{name, from, from + uintptr(cap(list))*unsafe.Sizeof(*new(T))}
}

func regionsOf(name string, w impl.World) []region {
	all := []region{
		regionOf(name+" slots", w.Cfg.Plan.Slots), regionOf(name+" liars", w.Liars), regionOf(name+" counts", w.Counts),
		regionOf(name+" nodes", w.Nodes), regionOf(name+" flights", w.Net.List), regionOf(name+" frames", w.Frames),
	}
	for _, n := range w.Nodes {
		all = append(all, regionOf(name+" asks", n.Table.Asks), regionOf(name+" peers", n.Peers), regionOf(name+" heard", n.Heard))
	}
	return all
}

// No list has memory of another one.
func checkApart(t *testing.T, all []region) {
	t.Helper()
	all = slices.DeleteFunc(all, func(r region) bool { return r.from == r.to })
	slices.SortFunc(all, func(a, b region) int {
		if a.from < b.from {
			return -1
		}
		return 1
	})
	for i := 1; i < len(all); i++ {
		if all[i].from < all[i-1].to {
			t.Fatal(all[i-1].name, "and", all[i].name, "share memory")
		}
	}
}

// Ops that are done and such that are not, of each kind.
func opsOfAllSorts() []impl.Op {
	all := append(opsDone(), opAt(impl.OpDeliver, 1), opAt(impl.OpDeliver, 3), opAt(impl.OpDeliver, 39), opOf(impl.OpFuse, 5), opOf(impl.OpTick, 3), opOf(impl.OpTick, 2))
	for _, o := range wrongOps() {
		all = append(all, o)
	}
	return all
}

// P23: neither the world nor the spare room behind any of its lists is written into, nor the op; what is answered has memory of its own, and each list in it.
func TestWorldsShareNothing(t *testing.T) {
	worlds := rightWorlds()
	worlds["the zero value"] = impl.World{}
	worlds["one that is none"] = townWith(func(w *impl.World) { w.Time = -1 })
	worlds["late asks"] = townWith(func(w *impl.World) { w.Counts[0] = 90 })
	for name, first := range worlds {
		w, room := roomyWorld(first)
		kept := ownWorld(room())
		ops := opsOfAllSorts()
		for _, o := range ops {
			list := slices.Clone(o.List)
			one, other := doOp(w, o), doOp(w, o)
			course := runOps(w, []impl.Op{o, opPass(1), o})
			if !sameWorld(room(), kept) || !slices.Equal(list, o.List) || !sameWorldAnswer(one, other) {
				t.Fatalf("%s: %v writes into it", name, o)
			}
			all := slices.Concat(regionsOf("the world's", w), regionsOf("one's", one.w), regionsOf("the other's", other.w), regionsOf("the run's", course.w))
			checkApart(t, append(all, regionOf("what is told", course.told), regionOf("the codes", course.codes), regionOf("the op's list", o.List)))
		}
		places, seen, more := impl.WorldFalse(w), impl.WorldLooks(w), runOps(w, nil)
		impl.WorldClean(w)
		impl.WorldLies(w)
		if !sameWorld(room(), kept) || !sameWorld(more.w, first) {
			t.Fatal(name, "is written into")
		}
		all := slices.Concat(regionsOf("the world's", w), regionsOf("the run's", more.w))
		checkApart(t, append(all, regionOf("the false", places), regionOf("the looks", seen)))
	}
}

// P23: a new world has no memory of its settings and liars, and writes into neither.
func TestNewWorldsShareNothing(t *testing.T) {
	liars := bools(false, true, true, false)
	c := still()
	one, _ := impl.NewWorld(c, liars[:3])
	other, _ := impl.NewWorld(c, liars[:3])
	checkApart(t, slices.Concat(regionsOf("one's", one), regionsOf("the other's", other), []region{regionOf("slots", c.Plan.Slots), regionOf("liars", liars)}))
	if !slices.Equal(liars, bools(false, true, true, false)) || !sameCfg(c, still()) {
		t.Error("written into", liars, c)
	}
}

// P23: one world may be asked by several at once, and each is told what it is told alone.
func TestOneWorldAskedBySeveralAtOnce(t *testing.T) {
	w := townWith(func(w *impl.World) { w.Cfg.Drift = dr(1, 3) })
	kept := ownWorld(w)
	var all sync.WaitGroup
	for _, o := range append(opsDone(), opPass(90, 5, -5, 9, -9, 1000, -1000, 0, 7)) {
		want, run := wantWorldDo(w, o), wantWorldRun(w, []impl.Op{o, o})
		all.Go(func() {
			for range 20 {
				if got := doOp(w, o); !sameWorldAnswer(got, want) {
					t.Error(opName(o.Kind), got)
				}
				if got := runOps(w, []impl.Op{o, o}); !sameCourse(got, run) {
					t.Error(opName(o.Kind), got)
				}
				impl.WorldFalse(w)
				impl.WorldClean(w)
				impl.WorldLooks(w)
			}
		})
	}
	all.Wait()
	if !sameWorld(w, kept) {
		t.Error("the world was written into", w)
	}
}

// Whoever counts what passed has ended when the op is told, whether it was done or not.
func TestNobodyIsLeftCounting(t *testing.T) {
	before := runtime.NumGoroutine()
	for range 300 {
		for _, w := range []impl.World{town(), newWorld(still(), 1, 0), townWith(func(w *impl.World) { w.Time = far }), townWith(func(w *impl.World) { w.Counts[3] = far })} {
			doOp(w, opPass(9, 1, 2, 3))
			runOps(w, []impl.Op{opPass(9, 1, 2, 3), opPass(0), opPass(impl.MaxPass)})
		}
	}
	checkNobodyLeft(t, before)
}

// P23: an op that is done again tells the same, whatever was done between; however those who count run.
func TestWorldsAreTheSameEachTime(t *testing.T) {
	w := townWith(func(w *impl.World) { w.Cfg.Drift = dr(1, 3) })
	want := map[int]worldAnswer{}
	for _, o := range opsDone() {
		want[o.Kind] = wantWorldDo(w, o)
	}
	for range 60 {
		for _, o := range opsDone() {
			if got := doOp(w, o); !sameWorldAnswer(got, want[o.Kind]) {
				t.Fatal(opName(o.Kind), got)
			}
		}
	}
}

// P23: at any arguments, however far out, each call tells what the document says.
func TestWorldsAtAnyArguments(t *testing.T) {
	numbers := []int{math.MinInt, -far - 1, -far, -1, 0, 1, 7, 8, 39, 40, far, far + 1, math.MaxInt}
	worlds := []impl.World{{}, town(), newWorld(still(), 2, 1), townWith(func(w *impl.World) { w.Time = far })}
	for _, x := range numbers {
		n := impl.Node{Id: x, Life: lf(x, x, x), Local: impl.Local{Known: true, Bound: iv(x, x), At: x}, Table: tableOf(x, x, ak(x, x, x, x)), Peers: peers(pe(x, x, x, x)), App: had(x), Heard: heards(hd(x, x)), Sent: x}
		worlds = append(worlds,
			impl.World{Cfg: still(), Liars: bools(true), Time: x, Counts: []int{x}, Nodes: []impl.Node{impl.NewNode(0)}, Net: netOf(x)},
			impl.World{Cfg: still(), Liars: bools(false), Time: x, Counts: []int{x}, Nodes: []impl.Node{n}, Net: netOf(x, fl(x, x, x, "", x)), Frames: bus(fm(x, x, x, x, x))},
			townWith(func(w *impl.World) { w.Net.List[0].At, w.Net.List[0].To = x, x }))
	}
	for _, w := range worlds {
		for kind := -1; kind <= 16; kind++ {
			for i, x := range numbers {
				y := numbers[(i*5+3)%len(numbers)]
				all := []impl.Op{
					{Kind: kind, Node: x, To: y, A: x, B: y, Text: "x", List: []int{x, y}}, {Kind: kind, Node: x}, {Kind: kind, A: x}, {Kind: kind, A: x, B: y},
					{Kind: kind, Node: x, To: y}, {Kind: kind, A: 3, List: []int{x, y}}, {Kind: kind, Text: strings.Repeat("x", min(max(x, 0), 100))},
				}
				for _, o := range all {
					if got := doOp(w, o); !sameWorldAnswer(got, wantWorldDo(w, o)) {
						t.Fatalf("%v by %v: %v", w, o, got)
					}
				}
			}
		}
		checkWorldOk(t, w, wantWorldOk(w))
		checkWorldFalse(t, w, wantFalse(w)...)
		checkLooks(t, w, wantLooks(w)...)
		checkClean(t, w, wantClean(w))
		checkLies(t, w, wantLies(w))
	}
}
