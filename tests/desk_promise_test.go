package tests

import (
	"fmt"
	"math"
	"slices"
	"strconv"
	"strings"
	"sync"
	"testing"

	"loop.example/g00072/impl"
)

// P22 of one line: the document's answer; the world that is moved is the one that its op moves, and what tells no, what or bad, what shows and what tells nothing changes nothing.
func checkLineAtDesk(t *testing.T, w impl.World, line string) deskAnswer {
	t.Helper()
	got := deskLine(w, line)
	if want := wantDeskLine(w, line); !sameDesk(got, want) {
		t.Fatalf("DeskLine(%v, %.300q) is %v, want %v", w, line, got, want)
	}
	if strings.Contains(got.s, "\n") {
		t.Fatalf("%q tells %q", line, got.s)
	}
	quiet := slices.Contains([]string{"", "no", "what", "bad"}, got.s) || strings.HasPrefix(line, "show ")
	if quiet {
		if !sameWorld(got.w, w) {
			t.Fatalf("%q tells %q and changes %v to %v", line, got.s, w, got.w)
		}
		return got
	}
	o := parseOp(line)
	if done := doOp(w, o.o); o.code != impl.TextWell || done.code != impl.WorldDone || !sameWorld(done.w, got.w) || impl.TellLine(done.told) != got.s {
		t.Fatalf("%q tells %q, and its op %v", line, got.s, done)
	}
	return got
}

func TestDrawnLinesAtTheDesk(t *testing.T) {
	draw := &lottery{state: 221}
	said := map[string]int{}
	for range 1200 {
		w := draw.world()
		for range 12 {
			line := draw.deskLine(w)
			got := checkLineAtDesk(t, w, line)
			word, _, _ := strings.Cut(got.s, " ")
			if strings.HasPrefix(line, "show ") && got.s != "no" {
				word = line[:8]
			}
			said[word]++
		}
		wrong := worldWith(w, func(w *impl.World) { w.Counts[draw.number(len(w.Counts))] = -1 })
		if got := checkLineAtDesk(t, wrong, draw.deskLine(w)); got.s != "bad" {
			t.Fatal(wrong, got)
		}
	}
	for _, word := range append([]string{"", "no", "what", "show tim", "show net", "show bus", "show nod"}, opNames()...) {
		if said[word] < 100 {
			t.Errorf("%q is told %d times: %v", word, said[word], said)
		}
	}
}

func opNames() []string {
	var names []string
	for _, row := range opRows() {
		names = append(names, opName(row.kind))
	}
	return names
}

// Every line of few words, at a world of two nodes of which one is a liar.
func TestEveryLineOfFewWordsAtTheDesk(t *testing.T) {
	w := runOps(newWorld(still(), 2, 1), []impl.Op{opOf(impl.OpBoot, 0), opFix(0, 1, 2), opAsk(0, 1)}).w
	first := append([]string{"", "#", "#show", "show", "shows", "x", "time", "node"}, opNames()...)
	behind := listsOf([]string{"", "0", "1", "2", "-", "time", "net", "bus", "node", "#"}, 3)
	said := map[string]int{}
	for _, word := range first {
		for _, words := range behind {
			got := checkLineAtDesk(t, w, strings.Join(append([]string{word}, words...), " "))
			said[got.s]++
		}
	}
	for _, s := range []string{"", "no", "what", "0", "nothing", "0:0>1", "down 0 0 ? 0", "sync 1 0 -1..2 1"} {
		if said[s] == 0 {
			t.Error(s, "is never told", said)
		}
	}
}

func numberIn(t *testing.T, word string) int {
	t.Helper()
	n, err := strconv.Atoi(word)
	if err != nil {
		t.Fatal(word, err)
	}
	return n
}

func ivalIn(t *testing.T, word string) impl.Ival {
	t.Helper()
	low, high, ok := strings.Cut(word, "..")
	if !ok {
		t.Fatal(word)
	}
	return iv(numberIn(t, low), numberIn(t, high))
}

// The node that is shown, read from its words again.
func checkNodeShown(t *testing.T, w impl.World, i int) {
	t.Helper()
	n, words := w.Nodes[i], strings.Split(deskLine(w, fmt.Sprint("show node ", i)).s, " ")
	now, code := impl.NodeNow(w.Cfg, n, w.Counts[i])
	if impl.LifeName(n.Life.Mode) != words[0] || numberIn(t, words[1]) != n.Life.Epoch || numberIn(t, words[2]) != w.Counts[i] || numberIn(t, words[4]) != len(n.Table.Asks) {
		t.Fatal(w, i, words)
	}
	if code == impl.NodeDone != (words[3] != "?") || code == impl.NodeDone && ivalIn(t, words[3]) != now {
		t.Fatal(w, i, words)
	}
	var peers []impl.Peer
	for _, word := range words[5:] {
		id, bound, _ := strings.Cut(word, "=")
		bound, suspect := strings.CutSuffix(bound, "!")
		peers = append(peers, impl.Peer{Id: numberIn(t, id), Bound: ivalIn(t, bound), Suspect: suspect})
	}
	kept := slices.Clone(n.Peers)
	for i := range kept {
		kept[i].At = 0
	}
	if !slices.Equal(peers, kept) {
		t.Fatal(w, i, words)
	}
}

func checkMailShown(t *testing.T, w impl.World) {
	t.Helper()
	words := strings.Split(deskLine(w, "show net").s, " ")
	if len(w.Net.List) == 0 {
		words = slices.DeleteFunc(words, func(word string) bool { return word == "nothing" })
	}
	for i, f := range w.Net.List {
		parts := strings.FieldsFunc(words[i], func(r rune) bool { return r == ':' || r == '>' })
		if [3]int{numberIn(t, parts[0]), numberIn(t, parts[1]), numberIn(t, parts[2])} != [3]int{f.Id, f.From, f.To} {
			t.Fatal(w.Net, words)
		}
	}
	if len(words) != len(w.Net.List) {
		t.Fatal(w.Net, words)
	}
}

func checkBusShown(t *testing.T, w impl.World) {
	t.Helper()
	words := strings.Split(deskLine(w, "show bus").s, " ")
	if len(w.Frames) == 0 {
		words = slices.DeleteFunc(words, func(word string) bool { return word == "nothing" })
	}
	for i, f := range w.Frames {
		var shown [5]int
		for j, part := range strings.FieldsFunc(words[i], func(r rune) bool { return r == '/' || r == '@' || r == '-' }) {
			shown[j] = numberIn(t, part)
		}
		if shown != [5]int{f.From, f.Slot, f.Round, f.Start, f.End} {
			t.Fatal(w.Frames, words)
		}
	}
	if len(words) != len(w.Frames) {
		t.Fatal(w.Frames, words)
	}
}

// P22: what shows shows the world as it is, and what it shows can be read from it again.
func TestWhatIsShownIsTheWorldAsItIs(t *testing.T) {
	draw := &lottery{state: 222}
	worlds := rightWorlds()
	for i := range 800 {
		worlds[strconv.Itoa(i)] = draw.world()
	}
	for _, w := range worlds {
		for i := range w.Nodes {
			checkNodeShown(t, w, i)
		}
		checkMailShown(t, w)
		checkBusShown(t, w)
		if numberIn(t, deskLine(w, "show time").s) != w.Time {
			t.Fatal(w)
		}
		// Shown from the face they are the same.
		if deskLine(w, "show net").s != impl.ShowNet(w) || deskLine(w, "show bus").s != impl.ShowBus(w) || deskLine(w, "show node 0").s != impl.ShowNode(w, 0) {
			t.Fatal(w)
		}
	}
}

// P22: the session of a text is what DeskLine tells of each of its lines, one behind the other from a new world on, and their number; the world that it comes to is told too.
func checkSessionByLines(t *testing.T, c impl.Cfg, liars []bool, text string) impl.World {
	t.Helper()
	got := session(c, liars, text)
	w, ok := impl.NewWorld(c, liars)
	lines := wantLines(text)
	if !ok || len(lines) > impl.MaxOps || len(text) > impl.MaxScript {
		t.Fatalf("no session: %q", text)
	}
	var said strings.Builder
	for _, line := range lines {
		x := deskLine(w, line)
		w = x.w
		if x.s != "" {
			fmt.Fprintln(&said, x.s)
		}
	}
	if got != (sessionAnswer{said.String(), len(lines)}) {
		t.Fatalf("the session of %q is %v, and line by line %q in %d lines", text, got, said.String(), len(lines))
	}
	return w
}

// What was done in a history, as lines, with others among them that change nothing.
func (h *history) lines() []string {
	from := func(list []string) string { return list[h.draw.number(len(list))] }
	var lines []string
	for _, o := range h.ops {
		if x := wantOpLine(o); x.ok {
			lines = append(lines, x.s)
		}
		// Who has just booted is cold, mostly not for long.
		if o.Kind == impl.OpBoot && h.draw.number(2) == 0 {
			lines = append(lines, "show node "+strconv.Itoa(o.Node))
		}
		for h.draw.number(5) == 0 {
			line := from([]string{"show time", "show net", "show bus", "show node " + strconv.Itoa(h.draw.number(9)), from(silentLines()), from(linesOfNoShow()), from(linesOfNoOp())})
			if len(line) < 50 && !strings.Contains(line, "\n") {
				lines = append(lines, line)
			}
		}
	}
	bytes := 0
	for i, line := range lines {
		if bytes += len(line) + 1; i == impl.MaxOps || bytes > impl.MaxScript {
			return lines[:i]
		}
	}
	return lines
}

func (h *history) steps() {
	h.t.Helper()
	switch h.draw.number(5) {
	case 0:
		h.talks()
	case 1:
		h.turns()
	case 2:
		h.readsMuch()
		h.holds()
	default:
		h.do(h.next())
	}
}

// A node reads while it knows little, and then what it has read lies above all that it knows.
func (h *history) holds() {
	node := h.draw.placeIn(h.w, false)
	h.fallsAndRises(node, 0, 20+h.draw.number(40))
	h.do(opFix(node, 0, h.draw.number(3)))
	h.do(opOf(impl.OpRead, node))
}

func TestASessionTellsWhatDeskLineTells(t *testing.T) {
	draw, said := &lottery{state: 223}, map[string]int{}
	for _, d := range []impl.Drift{dr(0, 1), dr(1, 2), dr(1, 9), dr(1, 1000)} {
		for lie := range 4 {
			for range 8 {
				h := begin(t, draw, draw.newTown(d, lie), map[string]int{})
				h.rises()
				for len(h.ops) < 30+draw.number(200) {
					h.steps()
				}
				lines := h.lines()
				text := strings.Join(lines, "\n") + []string{"", "\n"}[draw.number(2)]
				c, liars := h.from.Cfg, h.from.Liars
				checkSessionByLines(t, c, liars, text)
				got := session(c, liars, text)
				if got != wantSession(c, liars, text) {
					t.Fatalf("the session of %q is %v, want %v", text, got, wantSession(c, liars, text))
				}
				// Cut behind a line it tells what it told by then.
				for range 8 {
					n := draw.number(len(lines) + 1)
					ahead := session(c, liars, strings.Join(lines[:n], "\n"))
					if !strings.HasPrefix(got.s, ahead.s) || len(wantLines(strings.Join(lines[:n], "\n"))) != ahead.n {
						t.Fatalf("of %q cut behind %d it is %v", text, n, ahead)
					}
				}
				for line := range strings.Lines(got.s) {
					word, behind, _ := strings.Cut(strings.TrimSuffix(line, "\n"), " ")
					said[word]++
					if fields := strings.Fields(behind); len(fields) > 2 {
						said[word+" done"]++
					}
					if strings.HasSuffix(behind, " holds") {
						said["holds"]++
					}
				}
			}
		}
	}
	for _, word := range append([]string{"no", "what", "nothing", "holds", "ask done", "fuse done", "read done", "send done", "sync", "cold", "down"}, opNames()...) {
		if said[word] < 20 {
			t.Errorf("%q is told %d times: %v", word, said[word], said)
		}
	}
}

// A session of a script's text moves the world as a run of its ops does, and tells each of them.
func TestASessionOfAScriptIsItsRun(t *testing.T) {
	draw, ops := &lottery{state: 224}, 0
	for lie := range 4 {
		for range 10 {
			h := begin(t, draw, draw.newTown(dr(1, 3), lie), map[string]int{})
			h.rises()
			for len(h.ops) < 60+draw.number(100) {
				h.steps()
			}
			list := slices.DeleteFunc(h.ops, func(o impl.Op) bool { return !impl.OpOk(o) })
			script := scriptText(list[:min(len(list), impl.MaxOps)])
			if !script.ok {
				continue
			}
			then := checkSessionByLines(t, h.from.Cfg, h.from.Liars, script.s)
			run := runOps(h.from, parseScript(script.s).list)
			var said strings.Builder
			for i, code := range run.codes {
				if code == impl.WorldDone {
					fmt.Fprintln(&said, impl.TellLine(run.told[i]))
				} else {
					fmt.Fprintln(&said, "no")
				}
			}
			if got := session(h.from.Cfg, h.from.Liars, script.s); got != (sessionAnswer{said.String(), len(run.codes)}) || !sameWorld(then, run.w) {
				t.Fatalf("the session of %q is %v, and its run %q", script.s, got, said.String())
			}
			ops += len(run.codes)
		}
	}
	if ops < 2500 {
		t.Fatal("too few", ops)
	}
}

// Lines that change nothing may stand anywhere, and be left out: all else is told the same.
func TestLinesThatChangeNothingMayBeLeftOut(t *testing.T) {
	draw := &lottery{state: 225}
	for lie := range 3 {
		for range 10 {
			h := begin(t, draw, draw.newTown(dr(1, 5), lie), map[string]int{})
			h.rises()
			for len(h.ops) < 80 {
				h.steps()
			}
			var moves, all []string
			w := h.from
			for _, line := range h.lines() {
				x := deskLine(w, line)
				w = x.w
				all = append(all, line)
				if !slices.Contains([]string{"", "no", "what"}, x.s) && !strings.HasPrefix(line, "show ") {
					moves = append(moves, line)
				}
			}
			c, liars := h.from.Cfg, h.from.Liars
			one, other := checkSessionByLines(t, c, liars, strings.Join(all, "\n")), checkSessionByLines(t, c, liars, strings.Join(moves, "\n"))
			if !sameWorld(one, other) || !sameWorld(one, w) || len(moves) == len(all) {
				t.Fatalf("%q comes to %v, and %q to %v", all, one, moves, other)
			}
		}
	}
}

// Every text of few pieces, so that lines begin, end and are cut in every way.
func TestEverySessionOfFewPieces(t *testing.T) {
	two := bools(false, true)
	told := map[int]int{}
	for _, pieces := range listsOf([]string{"\n", "#", "show time", " ", "boot 0", "x"}, 6) {
		text := strings.Join(pieces, "")
		got := session(still(), two, text)
		if got != wantSession(still(), two, text) {
			t.Fatalf("the session of %q is %v, want %v", text, got, wantSession(still(), two, text))
		}
		told[got.n]++
	}
	for n := range 7 {
		if told[n] == 0 {
			t.Error("no session of", n)
		}
	}
}

// Any bytes at all, of a few that may matter and of all.
func TestAnyBytesAtTheDesk(t *testing.T) {
	draw := &lottery{state: 226}
	few := "show timenetbusd 0123\n\n##  boot0fix-\x00\xff\xc3"
	w := town()
	for round := range 6000 {
		b := make([]byte, draw.number(24))
		for i := range b {
			b[i] = few[draw.number(len(few))]
			if round%2 == 0 {
				b[i] = byte(draw.number(256))
			}
		}
		s := []string{"", "", "show ", "show node ", "#"}[draw.number(5)] + string(b)
		checkLineAtDesk(t, w, s)
		if got := session(still(), bools(false), s); got != wantSession(still(), bools(false), s) {
			t.Fatalf("the session of %q is %v", s, got)
		}
	}
}

// Lines of each sort, that move the world and that do not.
func linesOfAllSorts() []string {
	return slices.Concat(plainLines(), silentLines()[:5], linesOfNoShow()[:9], linesOfNoOp()[:9], []string{
		"show time", "show net", "show bus", "show node 0", "show node 5", "show node 8", "boot 2", "deliver 1", "deliver 3", "deliver 39", "fuse 5", "tick 3", "read 5", "boot 8", "ask 1 1",
	})
}

// P23: neither the world nor the spare room behind any of its lists is written into; the world that is answered has memory of its own, and each list in it.
func TestDesksShareNothing(t *testing.T) {
	worlds := rightWorlds()
	worlds["the zero value"] = impl.World{}
	worlds["one that is none"] = townWith(func(w *impl.World) { w.Time = -1 })
	worlds["late asks"] = townWith(func(w *impl.World) { w.Counts[0] = 90 })
	for name, first := range worlds {
		w, room := roomyWorld(first)
		kept := ownWorld(room())
		for _, line := range linesOfAllSorts() {
			one, other := deskLine(w, line), deskLine(w, line)
			if !sameWorld(room(), kept) || !sameDesk(one, other) {
				t.Fatalf("%s: %q writes into it", name, line)
			}
			checkApart(t, slices.Concat(regionsOf("the world's", w), regionsOf("one's", one.w), regionsOf("the other's", other.w)))
		}
		for i := -1; i <= len(w.Nodes); i++ {
			impl.ShowNode(w, i)
		}
		impl.ShowNet(w)
		impl.ShowBus(w)
		if !sameWorld(room(), kept) {
			t.Fatal(name, "is written into")
		}
	}
}

// P23: a session writes into neither its settings nor its liars, nor into what stands behind them.
func TestSessionsWriteIntoNothing(t *testing.T) {
	c := still()
	c.Plan.Slots = append(c.Plan.Slots, sl(-7, -7))[:2]
	liars := bools(false, false, true, false, true)
	text := strings.Join(linesOfAllSorts(), "\n")
	want := session(c, liars[:3], text)
	for range 3 {
		for _, other := range []string{"", text, "boot 0\nfix 0 1 1\npass 10\nsend 0 2 -\nshow bus", strings.Repeat("\n", 300)} {
			session(c, liars[:3], other)
		}
		if got := session(c, liars[:3], text); got != want || want.s == "" {
			t.Fatal("it is told otherwise", got, want)
		}
	}
	if !slices.Equal(liars, bools(false, false, true, false, true)) || !slices.Equal(c.Plan.Slots[:3], []impl.Slot{sl(0, 5), sl(1, 3), sl(-7, -7)}) || !sameCfg(c, still()) {
		t.Error("written into", c, liars)
	}
}

// P23: one world may stand at several desks at once, and each is told what it is told alone.
func TestOneWorldAtSeveralDesksAtOnce(t *testing.T) {
	w := townWith(func(w *impl.World) { w.Cfg.Drift = dr(1, 3) })
	kept := ownWorld(w)
	text := strings.Join(linesOfAllSorts(), "\n")
	alone := wantSession(w.Cfg, w.Liars, text)
	var all sync.WaitGroup
	for _, line := range linesOfAllSorts() {
		want := wantDeskLine(w, line)
		all.Go(func() {
			for range 10 {
				if got := deskLine(w, line); !sameDesk(got, want) {
					t.Error(line, got)
				}
			}
			if got := session(w.Cfg, w.Liars, text); got != alone {
				t.Error(got)
			}
		})
	}
	all.Wait()
	if !sameWorld(w, kept) {
		t.Error("the world was written into", w)
	}
}

// P23: a line that is done again tells the same, whatever was done between, and however those run who count.
func TestDesksAreTheSameEachTime(t *testing.T) {
	w := townWith(func(w *impl.World) { w.Cfg.Drift = dr(1, 3) })
	var want []deskAnswer
	for _, line := range linesOfAllSorts() {
		want = append(want, wantDeskLine(w, line))
	}
	for range 40 {
		for i, line := range linesOfAllSorts() {
			if got := deskLine(w, line); !sameDesk(got, want[i]) {
				t.Fatal(line, got)
			}
		}
	}
}

// P23: at any arguments, however far out, each call tells what the document says.
func TestDesksAtAnyArguments(t *testing.T) {
	numbers := []int{math.MinInt, -far - 1, -far, -1, 0, 1, 7, 8, 9, far, far + 1, math.MaxInt}
	worlds := []impl.World{{}, town(), newWorld(still(), 2, 1), townWith(func(w *impl.World) { w.Time = far })}
	for _, x := range numbers {
		n := impl.Node{Id: x, Life: lf(x, x, x), Local: impl.Local{Known: true, Bound: iv(x, x), At: x}, Table: tableOf(x, x, ak(x, x, x, x)), Peers: peers(pe(x, x, x, x)), App: had(x), Heard: heards(hd(x, x)), Sent: x}
		worlds = append(worlds,
			impl.World{Cfg: still(), Liars: bools(true), Time: x, Counts: []int{x}, Nodes: []impl.Node{impl.NewNode(0)}, Net: netOf(x)},
			impl.World{Cfg: still(), Liars: bools(false), Time: x, Counts: []int{x}, Nodes: []impl.Node{n}, Net: netOf(x, fl(x, x, x, "", x)), Frames: bus(fm(x, x, x, x, x))},
			townWith(func(w *impl.World) { w.Net.List[0].At, w.Net.List[0].To = x, x }),
			townWith(func(w *impl.World) { w.Nodes[3].Life.Mode, w.Nodes[4].Life.Mode = x, x }))
	}
	lines := slices.Concat(linesOfAllSorts(), linesOfNoShow(), linesOfNoOp(), silentLines())
	for _, x := range numbers {
		lines = append(lines, fmt.Sprint("show node ", x), fmt.Sprint("boot ", x), fmt.Sprint("pass ", x))
	}
	for _, w := range worlds {
		for _, line := range lines {
			if got := deskLine(w, line); !sameDesk(got, wantDeskLine(w, line)) {
				t.Fatalf("%v by %.300q: %v", w, line, got)
			}
		}
		for _, x := range numbers {
			checkShowNode(t, w, x, wantShowNode(w, x))
		}
		checkShowNet(t, w, wantShowNet(w))
		checkShowBus(t, w, wantShowBus(w))
		for _, text := range []string{"", "x", "boot 0\nshow node 0", strings.Repeat("\n", 201), strings.Repeat("x", 20001), strings.Join(linesOfAllSorts(), "\n")} {
			checkSession(t, w.Cfg, w.Liars, text, wantSession(w.Cfg, w.Liars, text))
			checkSession(t, impl.Cfg{}, w.Liars, text, sessionAnswer{"", -1})
		}
	}
	checkSession(t, still(), bools(false), strings.Repeat("show node 0\n", 1000000), sessionAnswer{"", -2})
	checkSession(t, still(), make([]bool, 1000000), "show time", sessionAnswer{"", -1})
}
