package tests

import (
	"fmt"
	"math"
	"regexp"
	"strings"

	"loop.example/g00072/impl"
)

// What the document says of the desk, written again: tells by a letter for each word behind the first one, lines by the patterns of their forms, and a session as one text from the front on.

type deskAnswer struct {
	w impl.World
	s string
}

type sessionAnswer struct {
	s string
	n int
}

func sameDesk(a, b deskAnswer) bool { return sameWorld(a.w, b.w) && a.s == b.s }

func deskLine(w impl.World, line string) (x deskAnswer) {
	x.w, x.s = impl.DeskLine(w, line)
	return x
}

func session(c impl.Cfg, liars []bool, text string) (x sessionAnswer) {
	x.s, x.n = impl.Session(c, liars, text)
	return x
}

func wantIvalText(a impl.Ival) string {
	return fmt.Sprintf("%s..%s", wantTextOf(a.Lo), wantTextOf(a.Hi))
}

// The words behind the first one, a letter each: n for Node, c for Code, v for Value, h for holds, i for Now. What stands behind the bar is told of what was done alone.
type tellRow struct {
	kind  int
	words string
}

func tellRows() []tellRow {
	return []tellRow{
		{impl.OpPass, ""}, {impl.OpBoot, "nc"}, {impl.OpCrash, "nc"}, {impl.OpFix, "nc"}, {impl.OpAsk, "nc|v"}, {impl.OpTick, "nc"}, {impl.OpFuse, "nc|i"},
		{impl.OpRead, "nc|vh"}, {impl.OpSend, "nc|v"}, {impl.OpDeliver, "nc"}, {impl.OpDrop, ""}, {impl.OpDouble, ""}, {impl.OpMove, ""}, {impl.OpForge, ""},
	}
}

func wantTellLine(t impl.Told) string {
	for _, row := range tellRows() {
		if row.kind == t.Kind {
			return opName(t.Kind) + wantTellWords(t, row.words)
		}
	}
	return ""
}

func wantTellWords(t impl.Told, letters string) string {
	always, done, _ := strings.Cut(letters, "|")
	if t.Code == 0 {
		always += done
	}
	said := ""
	for _, letter := range always {
		switch letter {
		case 'n':
			said += " " + wantTextOf(t.Node)
		case 'c':
			said += " " + wantTextOf(t.Code)
		case 'v':
			said += " " + wantTextOf(t.Value)
		case 'i':
			said += " " + wantIvalText(t.Now)
		case 'h':
			said += map[bool]string{true: " holds"}[t.Holds]
		}
	}
	return said
}

func wantShowNode(w impl.World, i int) string {
	if !wantWorldOk(w) || !wantPlaceIn(w, i) {
		return ""
	}
	n, now := w.Nodes[i], "?"
	if l := wantLook(w, i); l.Known {
		now = wantIvalText(l.Now)
	}
	said := fmt.Sprintf("%s %d %d %s %d", wantLifeName(n.Life.Mode), n.Life.Epoch, w.Counts[i], now, len(n.Table.Asks))
	for _, p := range n.Peers {
		said += fmt.Sprintf(" %d=%s%s", p.Id, wantIvalText(p.Bound), map[bool]string{true: "!"}[p.Suspect])
	}
	return said
}

func wantShowNet(w impl.World) string {
	if !wantWorldOk(w) {
		return ""
	}
	said := ""
	for _, f := range w.Net.List {
		said += fmt.Sprintf(" %d:%d>%d", f.Id, f.From, f.To)
	}
	return wantShown(said)
}

func wantShowBus(w impl.World) string {
	if !wantWorldOk(w) {
		return ""
	}
	said := ""
	for _, f := range w.Frames {
		said += fmt.Sprintf(" %d/%d/%d@%d-%d", f.From, f.Slot, f.Round, f.Start, f.End)
	}
	return wantShown(said)
}

// Of words with a blank ahead of each.
func wantShown(said string) string {
	if said == "" {
		return "nothing"
	}
	return said[1:]
}

var formOfShow = regexp.MustCompile(`(?s)\Ashow (.*)\z`)

func wantDeskLine(w impl.World, line string) deskAnswer {
	switch {
	case !wantWorldOk(w):
		return deskAnswer{w, "bad"}
	case line == "" || strings.HasPrefix(line, "#"):
		return deskAnswer{w, ""}
	case formOfShow.MatchString(line):
		return deskAnswer{w, wantShow(w, formOfShow.FindStringSubmatch(line)[1])}
	}
	o := wantParseOp(line)
	if o.code != impl.TextWell {
		return deskAnswer{w, "what"}
	}
	done := wantWorldDo(w, o.o)
	if done.code != impl.WorldDone {
		return deskAnswer{w, "no"}
	}
	return deskAnswer{done.w, wantTellLine(done.told)}
}

func wantShow(w impl.World, what string) string {
	switch what {
	case "time":
		return wantTextOf(w.Time)
	case "net":
		return wantShowNet(w)
	case "bus":
		return wantShowBus(w)
	}
	for i := range w.Nodes {
		if what == "node "+wantTextOf(i) {
			return wantShowNode(w, i)
		}
	}
	return "no"
}

// The lines of a text, as the document cuts it.
func wantLines(text string) []string {
	var lines []string
	for text != "" {
		line, behind, _ := strings.Cut(text, "\x0a")
		lines, text = append(lines, line), behind
	}
	return lines
}

func wantSession(c impl.Cfg, liars []bool, text string) sessionAnswer {
	w, ok := wantNewWorld(c, liars)
	lines := wantLines(text)
	switch {
	case !ok:
		return sessionAnswer{"", -1}
	case len(text) > 20000:
		return sessionAnswer{"", -2}
	case len(lines) > 200:
		return sessionAnswer{"", -3}
	}
	said := ""
	for _, line := range lines {
		x := wantDeskLine(w, line)
		if w = x.w; x.s != "" {
			said += x.s + "\x0a"
		}
	}
	return sessionAnswer{said, len(lines)}
}

// Lines that are near to one that shows, and show nothing, whatever the world: these are told no.
func linesOfNoShow() []string {
	all := []string{"show ", "show  ", "show  time", "show   ", "show \n", "show \x00", "show \xff", "show #", "show show time", "show boot 0", "show pass 1", "show world", "show 0", "show what", "show nothing"}
	for _, word := range []string{"time", "net", "bus", "node"} {
		all = append(all,
			"show "+word[1:], "show "+word[:len(word)-1], "show "+word+"s", "show "+word+" ", "show "+word+"  ", "show  "+word, "show "+word+"\n", "show \t"+word, "show "+word+"\r", "show "+word+"\x00", "show "+strings.ToUpper(word),
			"show "+word+" x", "show "+word+" 0 0", "show "+word+"0", "show "+word+" time", "show "+word+" #", "show "+word+"#")
		if word != "node" {
			all = append(all, "show "+word+" 0", "show "+word+" 1", "show "+word+" -")
		}
	}
	for _, place := range append(wrongNums(), "-1", "8", "9", "15", "64", "256", "999999999", "-999999999", " 0", "0 ", "0 0", "0 1", "00", "0\n", "0#", "0..1", "\n0") {
		all = append(all, "show node "+place)
	}
	return append(all, "show node", "show node  0", "show node\t0", "show\x20node\xa00", "show "+strings.Repeat("x", 50000), "show node "+strings.Repeat("0", 50000), "show"+strings.Repeat(" ", 50000))
}

// Lines that the desk takes for ops, and that are none: these are told what.
func linesOfNoOp() []string {
	all := []string{
		"show", " show time", "Show time", "SHOW time", "show\ttime", "showtime", "show\ntime", "show\x00time", "show\xa0time", "shows time", "sho time", "shownode 0", "time", "net", "bus", "node 0",
		" ", "  ", " #", "\n#", "\n", "\r", "\t", "\x00", "\xff", "x#", "boot#", "boot 0#", "boot 0 #", "fly", "bad", "no", "what", "nothing", "boot", "boot ", "boot  0", "boot 0 ", " boot 0", "boot x", "boot 8", "boot 00",
		"boot 0\n", "boot 0\r", "pass", "pass 1000001", "ask 1 1", "send 0 0 6g", "send 0 0", "deliver 40", "move 1", "forge 2 2 -", "holds", "?", "..", "ready",
	}
	for _, word := range wrongWords() {
		if word != "" && word != "show" && word[0] != '#' {
			all = append(all, word, word+" 0")
		}
	}
	return append(all, strings.Repeat(" ", 50000), "boot 0"+strings.Repeat(" ", 20000), "pass"+strings.Repeat(" 1", 10000), strings.Repeat("pass 1\n", 4000))
}

// Lines that tell nothing in any world.
func silentLines() []string {
	return []string{
		"", "#", "##", "# ", "# a word", "#show time", "# boot 0", "#boot 0", "#\n", "#\nboot 0", "#\x00", "#\xff", "#\u00e9", "# no", "#pass 1", "#show node 0", "#" + strings.Repeat("x", 25000), "#" + strings.Repeat("\n", 25000),
	}
}

// The numbers that a tell may have in the tests.
func toldNumbers() []int {
	return []int{math.MinInt, -far, -10, -1, 0, 1, 7, 8, 9, 10, 1000, 100000999, far, math.MaxInt}
}

// Any line for a world, of each kind of line that there is.
func (l *lottery) deskLine(w impl.World) string {
	from := func(list []string) string { return list[l.number(len(list))] }
	switch l.number(10) {
	case 0:
		return from([]string{"show time", "show net", "show bus"})
	case 1:
		return fmt.Sprintf("show node %d", l.number(len(w.Nodes)+1))
	case 2:
		return from([]string{"", "", "#", "# boot 0", "#show time", "# a word"})
	case 3:
		return from(linesOfNoShow())
	case 4:
		return from(linesOfNoOp())
	case 5:
		return l.changedLine()
	}
	return wantOpLine(l.op(1+l.number(14), w)).s
}
