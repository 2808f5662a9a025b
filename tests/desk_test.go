package tests

import (
	"fmt"
	"math"
	"slices"
	"strings"
	"testing"

	"loop.example/g00072/impl"
)

func checkIvalText(t *testing.T, a impl.Ival, want string) {
	t.Helper()
	if got := impl.IvalText(a); got != want || wantIvalText(a) != want {
		t.Fatalf("IvalText(%v) is %q, want %q", a, got, want)
	}
}

func checkTellLine(t *testing.T, one impl.Told, want string) {
	t.Helper()
	if got := impl.TellLine(one); got != want || wantTellLine(one) != want {
		t.Fatalf("TellLine(%v) is %q, want %q", one, got, want)
	}
}

func checkShowNode(t *testing.T, w impl.World, i int, want string) {
	t.Helper()
	if got := impl.ShowNode(w, i); got != want || wantShowNode(w, i) != want {
		t.Fatalf("ShowNode(%v, %d) is %q, want %q", w, i, got, want)
	}
}

func checkShowNet(t *testing.T, w impl.World, want string) {
	t.Helper()
	if got := impl.ShowNet(w); got != want || wantShowNet(w) != want {
		t.Fatalf("ShowNet(%v) is %q, want %q", w, got, want)
	}
}

func checkShowBus(t *testing.T, w impl.World, want string) {
	t.Helper()
	if got := impl.ShowBus(w); got != want || wantShowBus(w) != want {
		t.Fatalf("ShowBus(%v) is %q, want %q", w, got, want)
	}
}

func checkDesk(t *testing.T, w impl.World, line string, want deskAnswer) {
	t.Helper()
	if got := deskLine(w, line); !sameDesk(got, want) {
		t.Fatalf("DeskLine(%v, %.300q) is %v, want %v", w, line, got, want)
	}
	if own := wantDeskLine(w, line); !sameDesk(own, want) {
		t.Fatalf("DeskLine(%v, %.300q): the document read again tells %v, and not %v", w, line, own, want)
	}
}

// That it is said, and nothing is changed.
func checkSaid(t *testing.T, w impl.World, line string, said string) {
	t.Helper()
	checkDesk(t, w, line, deskAnswer{w, said})
}

func checkSession(t *testing.T, c impl.Cfg, liars []bool, text string, want sessionAnswer) {
	t.Helper()
	if got := session(c, liars, text); got != want || wantSession(c, liars, text) != want {
		t.Fatalf("Session(%v, %v, %.300q) is %v, want %v, and the document read again tells %v", c, liars, text, got, want, wantSession(c, liars, text))
	}
}

func TestIvalText(t *testing.T) {
	for want, a := range map[string]impl.Ival{
		"0..0": iv(0, 0), "-1..2": iv(-1, 2), "9..11": iv(9, 11), "-7..-3": iv(-7, -3), "-1000000000000..1000000000000": iv(-far, far),
		// What is no interval is told as it stands.
		"5..3": iv(5, 3), "1000000000001..0": iv(far+1, 0), "9223372036854775807..-9223372036854775808": iv(math.MaxInt, math.MinInt),
	} {
		checkIvalText(t, a, want)
	}
	for _, a := range ivalsOf(append(edgeNumbers(), -1000000000, 999999999, 1000000000)) {
		checkIvalText(t, a, fmt.Sprint(a.Lo)+".."+fmt.Sprint(a.Hi))
	}
}

func TestTellLine(t *testing.T) {
	all := impl.Told{Node: 3, Value: 7, Holds: true, Known: true, Was: iv(1, 9), Now: iv(-2, 5)}
	for kind, want := range map[int]string{
		impl.OpPass: "pass", impl.OpBoot: "boot 3 0", impl.OpCrash: "crash 3 0", impl.OpFix: "fix 3 0", impl.OpAsk: "ask 3 0 7", impl.OpTick: "tick 3 0", impl.OpFuse: "fuse 3 0 -2..5",
		impl.OpRead: "read 3 0 7 holds", impl.OpSend: "send 3 0 7", impl.OpDeliver: "deliver 3 0", impl.OpDrop: "drop", impl.OpDouble: "double", impl.OpMove: "move", impl.OpForge: "forge",
	} {
		checkTellLine(t, toldWith(all, func(t *impl.Told) { t.Kind = kind }), want)
	}
	checkTellLine(t, toldWith(all, func(t *impl.Told) { t.Kind, t.Holds = impl.OpRead, false }), "read 3 0 7")
	checkTellLine(t, impl.Told{}, "")
	checkTellLine(t, impl.Told{Kind: impl.OpRead}, "read 0 0 0")
	checkTellLine(t, impl.Told{Kind: impl.OpFuse, Node: 1}, "fuse 1 0 0..0")
	checkTellLine(t, impl.Told{Kind: impl.OpAsk, Node: 7, Value: impl.MaxNonce}, "ask 7 0 100000999")
	checkTellLine(t, impl.Told{Kind: impl.OpRead, Value: -far}, "read 0 0 -1000000000000")
	checkTellLine(t, impl.Told{Kind: impl.OpBoot, Node: math.MinInt, Code: math.MaxInt}, "boot -9223372036854775808 9223372036854775807")
}

// With another code than NodeDone nothing is told behind it, whatever stands there; a kind that is none has no line at all.
func TestTellLineWithEachCode(t *testing.T) {
	for _, kind := range manyKinds() {
		for _, code := range manyCodes() {
			for _, holds := range []bool{false, true} {
				one := impl.Told{Kind: kind, Node: 5, Code: code, Value: 12, Holds: holds, Known: !holds, Was: iv(0, 1), Now: iv(3, 4)}
				want := ""
				switch kind {
				case impl.OpPass, impl.OpDrop, impl.OpDouble, impl.OpMove, impl.OpForge:
					want = opName(kind)
				case impl.OpBoot, impl.OpCrash, impl.OpFix, impl.OpAsk, impl.OpTick, impl.OpFuse, impl.OpRead, impl.OpSend, impl.OpDeliver:
					want = fmt.Sprintf("%s 5 %d", opName(kind), code)
				}
				if code == impl.NodeDone {
					want += map[int]string{impl.OpAsk: " 12", impl.OpSend: " 12", impl.OpFuse: " 3..4", impl.OpRead: " 12" + map[bool]string{true: " holds"}[holds]}[kind]
				}
				checkTellLine(t, one, want)
			}
		}
	}
	for _, n := range toldNumbers() {
		for _, m := range toldNumbers() {
			for _, kind := range append(manyKinds(), n) {
				one := impl.Told{Kind: kind, Node: n, Code: 0, Value: m, Now: iv(n, m)}
				checkTellLine(t, one, wantTellLine(one))
				checkTellLine(t, toldWith(one, func(t *impl.Told) { t.Code = m }), wantTellLine(toldWith(one, func(t *impl.Told) { t.Code = m })))
			}
		}
	}
}

// The first word of a tell is the first word of the line of its kind.
func TestTellsBeginAsTheirLines(t *testing.T) {
	for _, o := range rightOps() {
		word, _, _ := strings.Cut(opLine(o).s, " ")
		said, _, _ := strings.Cut(impl.TellLine(impl.Told{Kind: o.Kind}), " ")
		if word == "" || said != word {
			t.Fatalf("%q tells %q", word, said)
		}
	}
}

func townNodes() []string {
	return []string{
		"sync 3 30 118..119 3 1=101..109 2=90..95! 7=100..106", "sync 3 41 116..119 0", "down 0 7 ? 0", "cold 3 39 ? 2", "down 3 25 ? 0",
		"hold 3 62 102..132 1 1=101..109 2=90..95! 7=100..106", "sync 3 21 501..502 0", "sync 3 77 118..118 0",
	}
}

func TestShowNode(t *testing.T) {
	for i, want := range townNodes() {
		checkShowNode(t, town(), i, want)
	}
	w := newWorld(still(), 2, 1)
	checkShowNode(t, w, 0, "down 0 0 ? 0")
	checkShowNode(t, w, 1, "down 0 0 ? 0")
	// What can't be carried on is not shown, though it is known.
	over := townWith(func(w *impl.World) { w.Nodes[1].Local = loc(far-9, far-6, 34) })
	checkShowNode(t, over, 1, "sync 3 41 ? 0")
	just := townWith(func(w *impl.World) { w.Nodes[1].Local = loc(far-9, far-7, 34) })
	checkShowNode(t, just, 1, "sync 3 41 999999999998..1000000000000 0")
	// The interval at its count, and not the one that was learnt.
	drifted := townWith(func(w *impl.World) { w.Cfg.Drift = dr(1, 2) })
	checkShowNode(t, drifted, 7, "sync 3 77 118..118 0")
	checkShowNode(t, drifted, 1, "sync 3 41 114..126 0")
	far8 := townWith(func(w *impl.World) { w.Counts[4] = far })
	checkShowNode(t, far8, 4, "down 3 1000000000000 ? 0")
	below := townWith(func(w *impl.World) { w.Nodes[7].Local = loc(-far, -5, 77); w.Nodes[7].Peers = peers(pe(0, -9, -3, 77)) })
	checkShowNode(t, below, 7, "sync 3 77 -1000000000000..-5 0 0=-9..-3")
	last := townWith(func(w *impl.World) { w.Nodes[4].Life.Epoch, w.Nodes[4].Table.Epoch = impl.MaxEpoch, impl.MaxEpoch })
	checkShowNode(t, last, 4, "down 100000 25 ? 0")
}

// As many asks and peers as there may be, and peers that are suspect each by itself.
func TestShowNodeOfMany(t *testing.T) {
	for suspects := range 1 << 7 {
		w := townWith(func(w *impl.World) {
			n := &w.Nodes[0]
			n.Peers, n.Table = peersWith(impl.MaxNodes)[1:], otherAsks(suspects%(impl.MaxAsks+1))
			for i := range n.Peers {
				n.Peers[i].Suspect = suspects>>i&1 == 1
			}
			w.Counts[0] = far
			n.Local = loc(0, 0, far)
		})
		got := impl.ShowNode(w, 0)
		if got != wantShowNode(w, 0) || strings.Count(got, "!") != strings.Count(fmt.Sprintf("%b", suspects), "1") || strings.Count(got, "=") != 7 {
			t.Fatal(suspects, got)
		}
		if words := strings.Split(got, " "); len(words) != 12 || words[4] != fmt.Sprint(suspects%(impl.MaxAsks+1)) {
			t.Fatal(suspects, got)
		}
	}
}

func TestShowNodeWhereThereIsNone(t *testing.T) {
	for _, i := range []int{math.MinInt, -far, -8, -1, 8, 9, 64, 256, 1 << 32, far, math.MaxInt} {
		checkShowNode(t, town(), i, "")
	}
	for many := 1; many <= impl.MaxNodes; many++ {
		w := newWorld(still(), many, 0)
		checkShowNode(t, w, many-1, "down 0 0 ? 0")
		checkShowNode(t, w, many, "")
		checkShowNode(t, w, -1, "")
	}
}

func TestShowNet(t *testing.T) {
	checkShowNet(t, town(), "11:3>0 4:1>0 15:2>0 2:0>6 7:1>4 19:6>5")
	checkShowNet(t, newWorld(still(), 1, 0), "nothing")
	checkShowNet(t, townWith(func(w *impl.World) { w.Net = netOf(7) }), "nothing")
	checkShowNet(t, townWith(func(w *impl.World) { w.Net = netOf(impl.MaxFlightId, fl(impl.MaxFlightId-1, 7, 0, "", 0)) }), "999999:7>0")
	full := townWith(func(w *impl.World) { w.Net, w.Time = netWith(impl.MaxFlights), 1000 })
	var words []string
	for _, f := range full.Net.List {
		words = append(words, fmt.Sprintf("%d:%d>%d", f.Id, f.From, f.To))
	}
	checkShowNet(t, full, strings.Join(words, " "))
}

func TestShowBus(t *testing.T) {
	checkShowBus(t, town(), "0/0/8@106-108 1/1/8@113-115")
	checkShowBus(t, newWorld(still(), 1, 0), "nothing")
	checkShowBus(t, townWith(func(w *impl.World) { w.Frames = nil }), "nothing")
	checkShowBus(t, townWith(func(w *impl.World) { w.Frames = append(w.Frames, fm(7, 15, far, 118, far)) }), "0/0/8@106-108 1/1/8@113-115 7/15/1000000000000@118-1000000000000")
	full := townWith(func(w *impl.World) { w.Frames, w.Time = busWith(impl.MaxFrames), 1000 })
	var words []string
	for _, f := range full.Frames {
		words = append(words, fmt.Sprintf("%d/%d/%d@%d-%d", f.From, f.Slot, f.Round, f.Start, f.End))
	}
	checkShowBus(t, full, strings.Join(words, " "))
}

// Of a world that is none nothing is shown, and every line is told bad, also one that would tell nothing or be refused for another reason.
func TestWorldsThatAreNoneAreBad(t *testing.T) {
	lines := slices.Concat(silentLines()[:6], linesOfNoShow()[:6], linesOfNoOp()[:6], plainLines(), []string{"show time", "show net", "show bus", "show node 0", "show node 9", "deliver 39"})
	for name, w := range wrongWorlds() {
		checkShowNet(t, w, "")
		checkShowBus(t, w, "")
		for i := range max(len(w.Nodes), 1) {
			checkShowNode(t, w, i, "")
		}
		for _, line := range lines {
			if got := deskLine(w, line); !sameDesk(got, deskAnswer{w, "bad"}) {
				t.Fatalf("%s: %.100q tells %q", name, line, got.s)
			}
		}
	}
	for name, w := range rightWorlds() {
		for i := range w.Nodes {
			if got := impl.ShowNode(w, i); got == "" || got != wantShowNode(w, i) {
				t.Fatal(name, i, got)
			}
		}
		checkSaid(t, w, "show time", fmt.Sprint(w.Time))
		checkSaid(t, w, "", "")
		checkShowNet(t, w, wantShowNet(w))
		checkShowBus(t, w, wantShowBus(w))
	}
}

func TestLinesThatTellNothing(t *testing.T) {
	for _, line := range silentLines() {
		checkSaid(t, town(), line, "")
		checkSaid(t, newWorld(still(), 1, 1), line, "")
	}
}

func TestLinesThatShow(t *testing.T) {
	checkSaid(t, town(), "show time", "118")
	checkSaid(t, town(), "show net", "11:3>0 4:1>0 15:2>0 2:0>6 7:1>4 19:6>5")
	checkSaid(t, town(), "show bus", "0/0/8@106-108 1/1/8@113-115")
	for i, want := range townNodes() {
		checkSaid(t, town(), fmt.Sprint("show node ", i), want)
	}
	w := newWorld(still(), 3, 1)
	checkSaid(t, w, "show time", "0")
	checkSaid(t, w, "show net", "nothing")
	checkSaid(t, w, "show bus", "nothing")
	for place, want := range []string{"down 0 0 ? 0", "down 0 0 ? 0", "down 0 0 ? 0", "no", "no", "no", "no", "no", "no"} {
		checkSaid(t, w, fmt.Sprint("show node ", place), want)
	}
	for _, line := range linesOfNoShow() {
		checkSaid(t, town(), line, "no")
		checkSaid(t, w, line, "no")
	}
}

func TestLinesThatAreNoOps(t *testing.T) {
	for _, line := range linesOfNoOp() {
		checkSaid(t, town(), line, "what")
		checkSaid(t, newWorld(still(), 1, 0), line, "what")
	}
	// Each code of ParseOp that a line may have.
	for line, code := range map[string]int{"pass " + strings.Repeat("1", 20000): impl.TextLong, "fly 1": impl.TextWord, "boot": impl.TextMany, "boot x": impl.TextNum, "send 1 7 6g": impl.TextHex, "boot 8": impl.TextOp} {
		checkLineCode(t, line, code)
		checkSaid(t, town(), line, "what")
	}
}

// An op that the world does, and what it tells of it, of each kind.
func TestLinesThatMoveTheWorld(t *testing.T) {
	want := []string{
		"pass", "boot 4 0", "crash 0 0", "fix 0 0", "ask 0 0 3009", "tick 0 0", "fuse 0 3", "read 0 0 118", "send 0 0 9", "deliver 0 0", "drop", "double", "move", "forge",
	}
	for i, line := range plainLines() {
		o := opsDone()[i]
		done := wantWorldDo(town(), o)
		if done.code != impl.WorldDone || o.Kind != i+1 {
			t.Fatal("not done", o)
		}
		checkDesk(t, town(), line, deskAnswer{done.w, want[i]})
	}
	after := doOp(town(), opOf(impl.OpBoot, 4)).w
	checkDesk(t, town(), "boot 4", deskAnswer{after, "boot 4 0"})
	checkSaid(t, after, "boot 4", "boot 4 14")
	hold := doOp(town(), opOf(impl.OpRead, 5)).w
	checkDesk(t, town(), "read 5", deskAnswer{hold, "read 5 0 140 holds"})
	checkSaid(t, town(), "read 3", "read 3 8")
	checkSaid(t, town(), "read 4", "read 4 2")
	checkSaid(t, town(), "send 4 1 -", "send 4 2")
	checkSaid(t, town(), "ask 4 1", "ask 4 2")
	wide := townWith(func(w *impl.World) { w.Nodes[0].Local = loc(100, 112, 20) })
	checkDesk(t, wide, "fuse 0", deskAnswer{doOp(wide, opOf(impl.OpFuse, 0)).w, "fuse 0 0 110..116"})
	// A flight to a liar: nothing happens to him, but it is gone.
	toLiar := doOp(town(), opAt(impl.OpDeliver, 3)).w
	checkDesk(t, town(), "deliver 3", deskAnswer{toLiar, "deliver 6 2"})
	if len(toLiar.Net.List) != 5 {
		t.Error(toLiar.Net)
	}
}

// What the world does not do is told no: for want of a node, by who may do it, or by what is said of its kind.
func TestLinesThatAreNotDone(t *testing.T) {
	lines := []string{
		"boot 2", "read 6", "crash 2", "fix 6 1 1", "tick 2", "fuse 6", "ask 2 1", "send 6 1 -", "forge 0 1 61", "forge 4 1 61", "deliver 6", "deliver 39", "drop 6", "double 6", "move 0 6", "move 6 0", "move 39 39",
	}
	for _, line := range lines {
		checkSaid(t, town(), line, "no")
	}
	w := newWorld(still(), 2, 1)
	for _, line := range append(lines, "boot 3", "ask 0 2", "forge 1 7 -", "deliver 0", "drop 0", "double 0", "move 0 0") {
		checkSaid(t, w, line, "no")
	}
	end := townWith(func(w *impl.World) { w.Time = far - 9 })
	checkSaid(t, end, "pass 10", "no")
	checkDesk(t, end, "pass 9", deskAnswer{doOp(end, opPass(9)).w, "pass"})
	checkSaid(t, end, "fix 3 4 10", "no")
	full := townWith(func(w *impl.World) { w.Frames, w.Time = busWith(impl.MaxFrames), 1000 })
	checkSaid(t, full, "send 0 1 -", "no")
	for _, crowded := range crowdedNets() {
		checkSaid(t, townWith(func(w *impl.World) { w.Net, w.Time = crowded, 1000 }), "forge 2 0 61", "no")
	}
}

func TestSession(t *testing.T) {
	two := bools(false, false)
	text := "boot 0\n# a word\n\nfix 0 1 1\npass 10\nread 0\nask 0 1\nshow net\nshow node 0\nboot 0\nboot 2\nfly\nshow bus\nshow time"
	want := "boot 0 0\nfix 0 0\npass\nread 0 0 10\nask 0 0 1000\n0:0>1\nsync 1 10 9..11 1\nboot 0 14\nno\nwhat\nnothing\n10\n"
	checkSession(t, still(), two, text, sessionAnswer{want, 14})
	// The byte behind the last line makes no line of its own.
	checkSession(t, still(), two, text+"\n", sessionAnswer{want, 14})
	checkSession(t, still(), two, text+"\n\n", sessionAnswer{want, 15})
	checkSession(t, still(), two, text+"\n#", sessionAnswer{want, 15})
	checkSession(t, still(), two, text+"\n ", sessionAnswer{want + "what\n", 15})
	// A world of its own, from an answer to a fusion, with a liar who is believed by nobody.
	c := cfgWith(func(c *impl.Cfg) { c.Lie, c.Least = 1, 2 })
	talk := "boot 0\nboot 1\nfix 1 0 0\nask 0 1\nask 0 2\nforge 2 0 " + wantHexOf(packed(reply(2, 0, 1001, iv(500, 500)))) + "\ndeliver 2\ndeliver 0\nshow net\ndeliver 1\nfuse 0\nshow node 0\nread 0\n" +
		"ask 0 2\nforge 2 0 " + wantHexOf(packed(reply(2, 0, 1002, iv(0, 1)))) + "\ndeliver 2\nshow node 0\nfuse 0\nshow node 0\npass 3\nsend 0 2 6869\nread 0\nfix 0 3 0\nread 0\nshow bus\nshow time\n"
	told := "boot 0 0\nboot 1 0\nfix 1 0\nask 0 0 1000\nask 0 0 1001\nforge\ndeliver 0 0\ndeliver 1 0\n1:0>2 3:1>0\ndeliver 0 0\nfuse 0 0 0..500\nsync 1 0 0..500 0 1=0..0 2=500..500\nread 0 0 250\n" +
		"ask 0 0 1002\nforge\ndeliver 0 0\nsync 1 0 0..500 0 1=0..0 2=0..1\nfuse 0 0 0..1\nsync 1 0 0..1 0 1=0..0 2=0..1\npass\nsend 0 8\nread 0 0 250 holds\nfix 0 0\nread 0 0 250 holds\nnothing\n3\n"
	checkSession(t, c, bools(false, false, true), talk, sessionAnswer{told, 26})
	// Frames of two rounds, and one that would go out while another is on the bus.
	sent := "boot 0\nfix 0 0 0\npass 10\nsend 0 2 6869\npass 1\nsend 0 2 -\nshow bus\npass 11\nsend 0 2 -\nshow bus\nboot 1\npass 0\nsend 1 2 -\nshow node 1\ncrash 0\nshow node 0"
	heard := "boot 0 0\nfix 0 0\npass\nsend 0 0 0\npass\nsend 0 13\n0/0/0@10-12\npass\nsend 0 0 1\n0/0/0@10-12 0/0/1@22-24\nboot 1 0\npass\nsend 1 13\ncold 1 22 ? 0\ncrash 0 0\ndown 1 22 ? 0\n"
	checkSession(t, still(), two, sent, sessionAnswer{heard, 16})
}

func TestSessionsThatCannotBe(t *testing.T) {
	one := bools(false)
	long, many := strings.Repeat("#", 20001), strings.Repeat("\n", 201)
	both := strings.Repeat("\n", 20001)
	noWorlds := []struct {
		c     impl.Cfg
		liars []bool
	}{{still(), nil}, {still(), bools()}, {still(), liarsOf(9, 0)}, {still(), liarsOf(9, 9)}, {still(), make([]bool, 100000)}, {impl.Cfg{}, one}, {impl.Cfg{}, nil}}
	for _, c := range wrongCfgs() {
		noWorlds = append(noWorlds, struct {
			c     impl.Cfg
			liars []bool
		}{c, one})
	}
	for _, no := range noWorlds {
		for _, text := range []string{"", "boot 0\n", "show time", long, many, both} {
			checkSession(t, no.c, no.liars, text, sessionAnswer{"", -1})
		}
	}
	for _, text := range []string{long, both, strings.Repeat("pass 1\n", 4000), "show time\n" + long} {
		checkSession(t, still(), one, text, sessionAnswer{"", -2})
	}
	for _, text := range []string{many, many + "x", strings.Repeat("\n", 20000), strings.Repeat("#\n", 201), strings.Repeat("show time\n", 201), strings.Repeat("boot 0\n", 200) + "x", strings.Repeat("x\n", 200) + "#"} {
		checkSession(t, still(), one, text, sessionAnswer{"", -3})
	}
}

// At each limit, by bytes and by lines; a line counts also where it tells nothing, and so do the bytes of one.
func TestSessionsAtTheirLimits(t *testing.T) {
	one := bools(false)
	for bytes := 19990; bytes <= 20010; bytes++ {
		want := sessionAnswer{"0\n", 2}
		if bytes > impl.MaxScript {
			want = sessionAnswer{"", -2}
		}
		checkSession(t, still(), one, "show time\n#"+strings.Repeat("x", bytes-11), want)
		checkSession(t, still(), one, "#"+strings.Repeat("x", bytes-11)+"\nshow time", want)
		// By bytes, not by letters.
		checkSession(t, still(), one, "show time\n#"+strings.Repeat("\u00e9", (bytes-11)/2)+strings.Repeat("x", (bytes-11)%2), want)
	}
	for _, line := range []string{"", "#", "# a word", "x", "show time", "boot 9", "boot 0", "pass 1"} {
		for lines := 195; lines <= 205; lines++ {
			for _, text := range []string{strings.Repeat(line+"\n", lines), strings.Repeat(line+"\n", lines-1) + line} {
				n := lines
				// What stands behind the last byte is no line, where it is nothing.
				if line == "" && len(text) < lines {
					n--
				}
				got := session(still(), one, text)
				if got != wantSession(still(), one, text) || n <= impl.MaxOps && got.n != n || n > impl.MaxOps && got != (sessionAnswer{"", -3}) {
					t.Fatalf("%d of %q: %v", lines, line, got)
				}
			}
		}
	}
	// As many bytes in as many lines as there may be.
	checkSession(t, still(), one, strings.Repeat(strings.Repeat("#", 99)+"\n", 200), sessionAnswer{"", 200})
	checkSession(t, still(), one, strings.Repeat(strings.Repeat("#", 99)+"\n", 200)+"#", sessionAnswer{"", -2})
	checkSession(t, still(), one, strings.Repeat("\n", 200), sessionAnswer{"", 200})
	checkSession(t, still(), one, strings.Repeat("\n", 199)+"show time", sessionAnswer{"0\n", 200})
	checkSession(t, still(), one, strings.Repeat("\n", 200)+"show time", sessionAnswer{"", -3})
}

func TestSessionsOfFewLines(t *testing.T) {
	one := bools(false)
	for text, want := range map[string]sessionAnswer{
		"": {"", 0}, "\n": {"", 1}, "\n\n": {"", 2}, "\n\n\n": {"", 3}, "#": {"", 1}, "#\n": {"", 1}, "#\n#": {"", 2}, "x": {"what\n", 1}, "x\n": {"what\n", 1}, "\nx": {"what\n", 2}, "x\n\nx": {"what\nwhat\n", 3},
		"show time": {"0\n", 1}, "show time\n": {"0\n", 1}, "show time\n\nshow time": {"0\n0\n", 3}, "show time\r\n": {"no\n", 1}, "boot 0\r\n": {"what\n", 1}, " ": {"what\n", 1}, " \n": {"what\n", 1},
		"show\ntime": {"what\nwhat\n", 2}, "boot\n0": {"what\nwhat\n", 2}, "boot 0\nboot 0\nboot 0": {"boot 0 0\nboot 0 14\nboot 0 14\n", 3}, "boot 1": {"no\n", 1}, "show node 0\nboot 0\nshow node 0": {"down 0 0 ? 0\nboot 0 0\ncold 1 0 ? 0\n", 3},
		"\x00": {"what\n", 1}, "\xff\n\xff": {"what\nwhat\n", 2}, "# \xff\n\xc3\nshow time": {"what\n0\n", 3},
	} {
		checkSession(t, still(), one, text, want)
	}
	checkSession(t, still(), bools(true), "boot 0\nread 0\nshow node 0", sessionAnswer{"no\nno\ndown 0 0 ? 0\n", 3})
	checkSession(t, still(), liarsOf(8, 0), "show node 7\nshow node 8", sessionAnswer{"down 0 0 ? 0\nno\n", 2})
}
