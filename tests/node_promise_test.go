package tests

import (
	"math"
	"slices"
	"strings"
	"sync"
	"testing"

	"loop.example/g00072/impl"
)

// P18 of one call: what comes is NodeOk and has come no further than the count; what is not done leaves the node as it was.
func checkOneCall(t *testing.T, q nodeCall, n impl.Node) nodeAnswer {
	t.Helper()
	got := q.of(n)
	told := func(what string) {
		t.Helper()
		t.Fatalf("%s: %s of %v by %v tells %v", what, callName(q.kind), n, q, got)
	}
	if got.code != impl.NodeDone && !sameNodeAnswer(got, leftAs(got.n, got.code)) {
		told("something beside a code")
	}
	switch {
	case got.code == impl.NodeBad:
		if !sameNode(got.n, impl.Node{}) {
			told("a node beside what is bad")
		}
		return got
	case q.kind == toNow:
		if got.code == impl.NodeDone && !impl.IvalOk(got.now) {
			told("no interval")
		}
		return got
	case !impl.NodeOk(got.n) || got.n.Id != n.Id || !wantCome(got.n, q.count):
		told("no node, or another one")
	case q.kind == toGet && got.code == impl.NodeOver:
		checkUsedUp(t, q, n, got.n)
	case got.code != impl.NodeDone && !sameNode(got.n, n):
		told("not as it was")
	}
	return got
}

// Just the ask that was answered is gone.
func checkUsedUp(t *testing.T, q nodeCall, n, then impl.Node) {
	t.Helper()
	m := wantUnpack(q.b).m
	asked := slices.IndexFunc(n.Table.Asks, func(a impl.Ask) bool { return a.Nonce == m.Nonce && a.To == q.other })
	if m.Kind != impl.KindReply || asked < 0 {
		t.Fatalf("%v is used by %v", m, n)
	}
	want := ownNode(n)
	want.Table.Asks = slices.Delete(want.Table.Asks, asked, asked+1)
	if !sameNode(then, want) {
		t.Fatalf("%v, used by %v, leaves %v", m, n, then)
	}
}

// P18 over drawn nodes and calls, each of them by itself.
func TestANodeStaysANode(t *testing.T) {
	draw := &lottery{state: 182}
	var told [manyCalls][15]int
	for range 60000 {
		c := draw.cfg()
		count, truth := draw.standing()
		n := draw.node(count, truth)
		if !impl.NodeOk(n) {
			t.Fatal("the draw is no node", n)
		}
		kind := draw.number(manyCalls)
		told[kind][checkOneCall(t, draw.call(kind, c, n, count, truth), n).code]++
	}
	for kind, codes := range told {
		for _, code := range codesOf(kind) {
			if codes[code] < 15 {
				t.Errorf("%s tells %d in %d calls", callName(kind), code, codes[code])
			}
		}
	}
}

// P18 over drawn nodes, each led on by many calls, whatever comes.
func TestANodeStaysANodeCallByCall(t *testing.T) {
	draw := &lottery{state: 183}
	done := 0
	for range 600 {
		c := draw.cfg()
		count, truth := draw.standing()
		n := draw.node(count, truth)
		for range 150 {
			by := draw.number(9)
			count, truth = min(far, count+by), min(far, truth+by)
			kind := draw.number(manyCalls)
			// Who is down boots, so that not all that comes is off.
			if n.Life.Mode == inDown && draw.number(3) > 0 {
				kind = toBoot
			}
			got := checkOneCall(t, draw.call(kind, c, n, count, truth), n)
			if kind != toNow && got.code != impl.NodeBad {
				n = got.n
			}
			if got.code == impl.NodeDone {
				done++
			}
		}
	}
	if done < 30000 {
		t.Fatal("too few", done)
	}
}

// P18 over every run of few calls from a new node on, at counts that go on.
func TestEveryRunOfFewCalls(t *testing.T) {
	runs := 0
	var follow func(n impl.Node, count, left int)
	follow = func(n impl.Node, count, left int) {
		runs++
		if left == 0 {
			return
		}
		for _, q := range callsDone() {
			q.count = count
			got := checkOneCall(t, q, n)
			if got.code == impl.NodeBad || got.n.Life.Epoch-n.Life.Epoch > 1 {
				t.Fatalf("%s of %v: %v", callName(q.kind), n, got)
			}
			// What changed nothing is followed as it is by the others.
			if q.kind != toNow && !sameNode(got.n, n) {
				follow(got.n, count+1, left-1)
			}
		}
	}
	for id := range 2 {
		follow(impl.NewNode(id), 0, 9)
	}
	if runs < 10000 {
		t.Fatal("too few", runs)
	}
}

// P18: a message that is not used changes nothing, and nothing is told of it but the code.
func TestMessagesThatAreNotUsedChangeNothing(t *testing.T) {
	draw := &lottery{state: 184}
	left := map[int]int{}
	for range 40000 {
		c := draw.cfg()
		count, truth := draw.standing()
		n := draw.node(count, truth)
		q := draw.call(toGet, c, n, count, truth)
		got := q.of(n)
		left[got.code]++
		if got.code == impl.NodeDone || got.code == impl.NodeOver || got.code == impl.NodeBad {
			continue
		}
		if !sameNode(got.n, n) || got.m != (impl.Msg{}) {
			t.Fatalf("%v by %v: %v", n, q, got)
		}
		// What changed nothing is refused in the same way a second time.
		if again := q.of(got.n); !sameNodeAnswer(again, got) {
			t.Fatalf("%v by %v: %v, and then %v", n, q, got, again)
		}
	}
	for _, code := range codesOf(toGet) {
		if left[code] < 200 {
			t.Error("too few", code, left)
		}
	}
}

// P18: an answer is used once: behind it the same bytes are refused, at once and later, and by whomever they come.
func TestAnAnswerIsUsedOnce(t *testing.T) {
	draw := &lottery{state: 185}
	used := map[int]int{}
	for range 40000 {
		c := draw.cfg()
		count, truth := draw.standing()
		n := draw.node(count, truth)
		if len(n.Table.Asks) == 0 {
			continue
		}
		a := n.Table.Asks[draw.number(len(n.Table.Asks))]
		m := reply(a.To, n.Id, a.Nonce, draw.around(truth, 12))
		q := nodeCall{kind: toGet, c: c, count: count, other: a.To, b: wantPack(m)}
		got := q.of(n)
		used[got.code]++
		if got.code != impl.NodeDone && got.code != impl.NodeOver || impl.Waits(got.n.Table, a.To) != impl.Waits(n.Table, a.To)-1 {
			t.Fatalf("%v by %v: %v", n, q, got)
		}
		for _, later := range []int{count, min(far, count+1), far} {
			q.count = later
			checkLeft(t, q, got.n, impl.NodeNonce)
		}
	}
	if used[impl.NodeDone] < 5000 || used[impl.NodeOver] < 500 {
		t.Fatal("too few", used)
	}
}

// P18: who was down knows nothing of what it asked before: no answer to it is used any more.
func TestWhoWasDownKnowsNothingOfWhatItAsked(t *testing.T) {
	draw := &lottery{state: 186}
	asked := 0
	for range 3000 {
		c := draw.cfg()
		count, truth := draw.standing()
		n := draw.node(count, truth)
		down := nodeCall{kind: toCrash, count: count}.of(n)
		if n.Life.Mode == inDown || n.Life.Epoch == impl.MaxEpoch {
			continue
		}
		up := nodeCall{kind: toBoot, count: count}.of(down.n).n
		// As many asks as before, so that only the epoch keeps the nonces apart.
		for range n.Table.Used % 20 {
			up = nodeCall{kind: toAsk, c: c, count: count, other: (n.Id + 1) % impl.MaxNodes}.of(up).n
		}
		for _, a := range n.Table.Asks {
			q := nodeCall{kind: toGet, c: c, count: count, other: a.To, b: wantPack(reply(a.To, n.Id, a.Nonce, iv(3, 9)))}
			checkLeft(t, q, down.n, impl.NodeOff)
			checkLeft(t, q, up, impl.NodeNonce)
			asked++
		}
		if up.Local.Known || len(up.Peers) > 0 || len(up.Heard) > 0 || up.App.Has || up.Life.Epoch != n.Life.Epoch+1 {
			t.Fatalf("%v is %v then", n, up)
		}
	}
	if asked < 3000 {
		t.Fatal("too few", asked)
	}
}

// A fusion that is done tells what is known at its count, and never makes it wider; whom it marks is who is apart from it.
func TestAFusionNeverWidens(t *testing.T) {
	draw := &lottery{state: 187}
	narrower, same, learned := 0, 0, 0
	for range 40000 {
		c := draw.cfg()
		count, truth := draw.standing()
		n := draw.node(count, truth)
		was, how := impl.NodeNow(c, n, count)
		then, code := impl.NodeFuse(c, n, count)
		if code != impl.NodeDone {
			continue
		}
		now, told := impl.NodeNow(c, then, count)
		if told != impl.NodeDone || then.Life.Mode != inSync || then.Local != loc(now.Lo, now.Hi, count) {
			t.Fatalf("%v is %v then", n, then)
		}
		switch {
		case how == impl.NodeUnsure:
			learned++
		case how != impl.NodeDone || !impl.Within(now, was):
			t.Fatalf("%v knew %v, and then %v", n, was, now)
		case now == was:
			same++
		default:
			narrower++
		}
		if !slices.Equal(unmarked(then.Peers), unmarked(n.Peers)) || then.Table.Used != n.Table.Used {
			t.Fatalf("%v is %v then", n, then)
		}
	}
	if narrower < 1000 || same < 100 || learned < 1000 {
		t.Fatal("too few", narrower, same, learned)
	}
}

// A probe that went out, and when by true time; the answer may have been made at any time since.
type underWay struct{ to, nonce, sent int }

// One node by an oscillator within its drift. The others say what is true, but for as many liars as its settings bear; answers come late, in any order, again, or never.
type living struct {
	t     *testing.T
	draw  *lottery
	c     impl.Cfg
	o     impl.Osc
	tick  func(step, by int) int
	n     impl.Node
	liars []int
	out   []underWay
	last  struct {
		nonce, over, reading int
		// Whether there is a reading since it is up.
		read bool
	}
	done map[string]int
}

func (w *living) fail(what string, told ...any) {
	w.t.Helper()
	w.t.Fatalf("%s: %v by %v at %v: %v", what, w.n, w.c, w.o, told)
}

func (w *living) call(q nodeCall) nodeAnswer {
	w.t.Helper()
	q.c, q.count = w.c, w.o.Count
	got := checkOneCall(w.t, q, w.n)
	if got.code == impl.NodeBad {
		w.fail("it is bad", callName(q.kind), q)
	}
	w.n = got.n
	if got.code == impl.NodeDone {
		w.done[callName(q.kind)]++
	}
	if !impl.NodeTrue(w.c, w.n, w.o.Count, w.o.Time) {
		w.fail("false", callName(q.kind), q, got)
	}
	return got
}

func (w *living) pass(step int) {
	by := []int{0, 1, 1, 2, 3, 5, 9, 30}[w.draw.number(8)]
	next, ok := impl.OscStep(w.o, impl.Stride{By: by, Want: w.tick(step, by)})
	if !ok {
		w.fail("time ends")
	}
	w.o = next
	if !impl.NodeTrue(w.c, w.n, w.o.Count, w.o.Time) {
		w.fail("false", by)
	}
}

// Nonces ascend over all that the node ever asks, through crashes and boots.
func (w *living) goesOut(m impl.Msg) {
	if !impl.MsgOk(m) || m.Kind != impl.KindProbe || m.From != w.n.Id || m.Nonce <= w.last.nonce {
		w.fail("a probe", m, w.last.nonce)
	}
	w.last.nonce = m.Nonce
	w.out = append(w.out, underWay{m.To, m.Nonce, w.o.Time})
}

func (w *living) ask() {
	to := (w.n.Id + 1 + w.draw.number(impl.MaxNodes-1)) % impl.MaxNodes
	if got := w.call(nodeCall{kind: toAsk, other: to}); got.code == impl.NodeDone {
		w.goesOut(got.m)
	}
}

func (w *living) beat() {
	for _, m := range w.call(nodeCall{kind: toTick}).list {
		w.goesOut(m)
		w.done["again"]++
	}
}

// Any answer of all that were ever asked for, so also one that came already, or was asked for ahead of a crash.
func (w *living) answer() {
	if len(w.out) == 0 {
		return
	}
	p := w.out[max(0, len(w.out)-1-w.draw.number(12))]
	made := p.sent + w.draw.number(w.o.Time-p.sent+1)
	said := w.draw.around(made, 8)
	if slices.Contains(w.liars, p.to) {
		said = w.draw.beside(made, 40)
	}
	waited := slices.ContainsFunc(w.n.Table.Asks, func(a impl.Ask) bool { return a.Nonce == p.nonce })
	isDown := w.n.Life.Mode == inDown
	got := w.call(nodeCall{kind: toGet, other: p.to, b: wantPack(reply(p.to, w.n.Id, p.nonce, said))})
	switch {
	case isDown && got.code == impl.NodeOff:
	case !waited && got.code == impl.NodeNonce:
		w.done["not waited for"]++
	case waited && got.code == impl.NodeDone:
		w.done["answered"]++
	default:
		w.fail("an answer", p, waited, got)
	}
}

func (w *living) probed() {
	from := (w.n.Id + 1) % impl.MaxNodes
	got := w.call(nodeCall{kind: toGet, other: from, b: wantPack(probe(from, w.n.Id, 77))})
	if got.code == impl.NodeDone && (!impl.MsgOk(got.m) || !impl.Holds(got.m.Said, w.o.Time)) {
		w.fail("it says what is not so", got.m)
	}
}

func (w *living) hear() {
	slot := w.draw.number(len(w.c.Plan.Slots))
	from := w.c.Plan.Slots[slot].Owner
	if got := w.call(nodeCall{kind: toGet, other: from, b: wantPack(frame(from, slot, "x"))}); got.code == impl.NodeDone {
		w.done["heard"]++
		if !slices.Contains(impl.HeardNow(w.n.Heard, w.c.Plan, w.c.Drift, w.o.Count), slot) {
			w.fail("not heard", slot)
		}
	}
}

func (w *living) fix() {
	w.call(nodeCall{kind: toFix, a: w.draw.around(w.o.Time, 5)})
}

// A reading never falls while the node is up, and lies in what is known, or stands.
func (w *living) read() {
	now, how := impl.NodeNow(w.c, w.n, w.o.Count)
	got := w.call(nodeCall{kind: toRead})
	if got.code != impl.NodeDone {
		return
	}
	fell := w.last.read && got.value < w.last.reading
	if fell || got.holds && got.value != w.last.reading || !got.holds && (how != impl.NodeDone || !impl.Holds(now, got.value)) {
		w.fail("a reading", got, w.last)
	}
	w.last.reading, w.last.read = got.value, true
}

// Two frames never overlap, however long the first took; each lies in a slot of the node's own, as it says.
func (w *living) send() {
	got := w.call(nodeCall{kind: toSend, body: "y"})
	if got.code != impl.NodeDone {
		return
	}
	most, _ := impl.MostTime(w.c.Drift, w.c.Long)
	over := w.o.Time + most
	slot, round, ok := impl.InSlot(w.c.Plan, w.n.Id, w.o.Time, over)
	if w.o.Time < w.last.over || !ok || slot != got.m.Slot || round != got.value || !impl.MsgOk(got.m) {
		w.fail("a frame", got, w.last)
	}
	w.last.over = over
}

func (w *living) crash() {
	if w.call(nodeCall{kind: toCrash}).code == impl.NodeDone {
		w.last.read = false
	}
}

func (w *living) boot() { w.call(nodeCall{kind: toBoot}) }

// What is done most is most often in the row.
func (w *living) steps() []func() {
	fuse := func() { w.call(nodeCall{kind: toFuse}) }
	return []func(){
		w.ask, w.ask, w.ask, w.answer, w.answer, w.answer, w.answer, w.beat, w.beat, fuse, fuse, w.read, w.read,
		w.send, w.send, w.send, w.send, w.fix, w.probed, w.hear,
	}
}

func (w *living) live(steps int) {
	for step := range steps {
		w.pass(step)
		switch {
		case w.n.Life.Mode == inDown && w.draw.number(4) == 0:
			w.boot()
		case w.draw.number(60) == 0:
			w.crash()
		default:
			all := w.steps()
			all[w.draw.number(len(all))]()
		}
	}
}

func TestANodeThatHearsWhatIsTrueIsNeverFalse(t *testing.T) {
	draw, done := &lottery{state: 188}, map[string]int{}
	for name, tick := range ticks() {
		for _, d := range []impl.Drift{dr(0, 1), dr(1, 2), dr(1, 9), dr(1, 100), dr(1, impl.MaxDen)} {
			for lie := range 3 {
				c := draw.cfg()
				c.Drift, c.Lie, c.Least, c.Keep, c.Long = d, lie, 1+draw.number(3), 10, 1+draw.number(3)
				c.Plan = planOf(draw.number(30), draw.number(4), sl(1, 30+draw.number(30)), sl(4, 10+draw.number(30)), sl(1, 20))
				w := &living{t: t, draw: draw, c: c, o: osc(d, 50, 7), tick: tick, n: impl.NewNode(1), liars: []int{0, 5}[:lie], done: done}
				w.last.nonce = -1
				w.live(3000)
				if t.Failed() {
					t.Fatal(name)
				}
			}
		}
	}
	for _, name := range []string{"boot", "crash", "fix", "ask", "tick", "get", "fuse", "read", "send", "again", "answered", "not waited for", "heard"} {
		if done[name] < 400 {
			t.Error("too few", name, done)
		}
	}
}

// The node's lists with room behind them that is none of theirs, and a look at all of it.
func roomyNode(n impl.Node) (impl.Node, func() impl.Node) {
	asks := append(slices.Clone(n.Table.Asks), ak(-7, -7, -7, -7), ak(3500, 1, 1, 1))
	list := append(slices.Clone(n.Peers), pe(-7, -7, -8, -7), pe(7, 1, 2, 3))
	heard := append(slices.Clone(n.Heard), hd(-7, -7), hd(15, 1))
	roomy := n
	roomy.Table.Asks, roomy.Peers, roomy.Heard = asks[:len(n.Table.Asks)], list[:len(n.Peers)], heard[:len(n.Heard)]
	return roomy, func() impl.Node {
		all := roomy
		all.Table.Asks, all.Peers, all.Heard = asks, list, heard
		return all
	}
}

func spoil(n impl.Node) {
	overwrite(n.Table.Asks, ak(-5, -5, -5, -5))
	overwrite(n.Peers, suspected(pe(-5, -5, -6, -5)))
	overwrite(n.Heard, hd(-5, -5))
}

// Calls that are done and such that are refused, of each kind.
func callsOfAllSorts() []nodeCall {
	all := callsDone()
	for _, m := range []impl.Msg{reply(1, 0, 3001, iv(105, 107)), reply(5, 0, 3004, iv(105, 107)), reply(1, 0, 3001, iv(105, far)), reply(1, 0, 9, iv(1, 2)), frame(1, 1, "body"), frame(1, 0, "x"), probe(3, 4, 5)} {
		all = append(all, getsMsg(m))
	}
	late := nodeCall{kind: toTick, c: still(), count: 100}
	apart := nodeCall{kind: toFix, c: still(), count: 30, a: iv(0, 1)}
	all = append(all, late, apart, gets(1, []byte("none")), fuses(2, 2), fuses(0, 8), sends("z"))
	for _, q := range unfitCalls() {
		all = append(all, q)
	}
	return all
}

// P23: neither the node nor the spare room behind its lists is written into, nor the plan and the bytes; what is answered has memory of its own.
func TestNodesShareNothing(t *testing.T) {
	told := 0
	nodes := rightNodes()
	nodes["the zero value"] = impl.Node{}
	nodes["a sender"] = sender()
	nodes["one that is none"] = nodeWith(fullNode(inSync), func(n *impl.Node) { n.Sent = -2 })
	for name, first := range nodes {
		for _, q := range callsOfAllSorts() {
			n, room := roomyNode(first)
			kept, b, slots := ownNode(room()), slices.Clone(q.b), slices.Clone(q.c.Plan.Slots)
			q.c.Plan.Slots = slots[:len(slots):len(slots)]
			one, other := q.of(n), q.of(n)
			want := other
			want.n, want.list = ownNode(other.n), slices.Clone(other.list)
			same := func(when string) {
				if !sameNode(room(), kept) || !slices.Equal(q.b, b) || !slices.Equal(q.c.Plan.Slots, slots) || !sameNodeAnswer(other, want) {
					t.Fatalf("%s, %s of %v %s", name, callName(q.kind), kept, when)
				}
			}
			same("writes into it")
			told += len(one.n.Table.Asks) + len(one.n.Peers) + len(one.n.Heard) + len(one.list)
			spoil(one.n)
			overwrite(one.list, probe(-5, -5, -5))
			same("shares its answer")
			spoil(room())
			overwrite(q.c.Plan.Slots, sl(-5, -5))
			overwrite(q.b, 5)
			if !sameNodeAnswer(other, want) {
				t.Fatalf("%s, %s of %v: the answer is of its memory", name, callName(q.kind), kept)
			}
		}
	}
	if told < 800 {
		t.Fatal("too few", told)
	}
}

// P23: one node may be asked by several at once, and each is told what it is told alone.
func TestOneNodeAskedBySeveralAtOnce(t *testing.T) {
	n, kept := fullNode(inSync), fullNode(inSync)
	var all sync.WaitGroup
	for _, q := range callsOfAllSorts() {
		want := q.want(n)
		all.Go(func() {
			for range 20 {
				if got := q.of(n); !sameNodeAnswer(got, want) {
					t.Error(callName(q.kind), got)
				}
			}
		})
	}
	all.Wait()
	if !sameNode(n, kept) {
		t.Error("the node was written into", n)
	}
}

// P23: a call that is made again answers the same, whatever was asked between.
func TestNodesAreTheSameEachTime(t *testing.T) {
	n := fullNode(inHold)
	for range 30 {
		for _, q := range callsOfAllSorts() {
			checkNodeCall(t, q, n, q.want(n))
		}
		checkNodeOk(t, n, true)
		checkCfgOk(t, still(), true)
		checkNodeTrue(t, still(), n, 30, 112, true)
	}
}

// P23: at any arguments, however far out, each call tells what the document says.
func TestNodesAtAnyArguments(t *testing.T) {
	numbers := []int{math.MinInt, -far - 1, -far, -1, 0, 1, 7, 8, 30, far, far + 1, math.MaxInt}
	nodes := []impl.Node{{}, impl.NewNode(0), nodeIn(inCold), sender(), fullNode(inHold)}
	for _, x := range numbers {
		n := impl.Node{Id: x, Life: lf(x, x, x), Local: impl.Local{Known: true, Bound: iv(x, x), At: x}, Table: tableOf(x, x, ak(x, x, x, x)), Peers: peers(pe(x, x, x, x)), App: had(x), Heard: heards(hd(x, x)), Sent: x}
		nodes = append(nodes, n)
	}
	for _, n := range nodes {
		for _, q := range callsDone() {
			for _, x := range numbers {
				q.count = x
				for _, y := range numbers {
					q.a, q.other, q.body = iv(x, y), y, strings.Repeat("x", min(max(y, 0), 100))
					checkNodeCall(t, q, n, q.want(n))
					checkNodeTrue(t, q.c, n, x, y, wantNodeTrue(q.c, n, x, y))
				}
			}
		}
	}
}
