package tests

import (
	"fmt"
	"math"
	"slices"
	"strings"
	"sync"
	"testing"
	"unsafe"

	"loop.example/g00072/impl"
)

// P21 of one op: its line is read as itself, if it has one, and it has one just if it is right.
func checkOpBack(t *testing.T, o impl.Op) {
	t.Helper()
	x := opLine(o)
	if x != wantOpLine(o) || x.ok != impl.OpOk(o) {
		t.Fatalf("OpLine(%v) is %v", o, x)
	}
	if back := parseOp(x.s); x.ok && !sameOpAnswer(back, opAnswer{o, impl.TextWell}) {
		t.Fatalf("%v is written %q and read %v", o, x.s, back)
	}
}

// P21 of one line: the document's answer, and what is read is written as it was.
func checkLineBack(t *testing.T, line string) int {
	t.Helper()
	x := parseOp(line)
	if !sameOpAnswer(x, wantParseOp(line)) {
		t.Fatalf("ParseOp(%q) is %v, want %v", line, x, wantParseOp(line))
	}
	if back := opLine(x.o); x.code == impl.TextWell && back != (textAnswer{line, true}) {
		t.Fatalf("%q is read %v and written %v", line, x.o, back)
	}
	return x.code
}

// P21 of one text: the document's answer; what is read is written as it was, and of what is wrong that much as was read.
func checkTextBack(t *testing.T, text string) int {
	t.Helper()
	x := parseScript(text)
	if !sameScript(x, wantParseScript(text)) {
		t.Fatalf("ParseScript(%q) is %v, want %v", text, x, wantParseScript(text))
	}
	back := scriptText(x.list)
	if !back.ok || x.n != len(x.list) || !strings.HasPrefix(text, back.s) || x.code == impl.TextWell && back.s != text {
		t.Fatalf("%q is read %v and written %v", text, x, back)
	}
	return x.code
}

func TestDrawnOpsAreReadAsThemselves(t *testing.T) {
	draw := &lottery{state: 211}
	lines := map[string]impl.Op{}
	for round := range 30000 {
		o := draw.rightOp(1 + round%14)
		if !impl.OpOk(o) {
			t.Fatal("the draw is no op", o)
		}
		checkOpBack(t, o)
		// No two have one line.
		line := opLine(o).s
		if other, there := lines[line]; there && !sameOp(other, o) {
			t.Fatalf("%q is of %v and of %v", line, o, other)
		}
		lines[line] = o
		if strings.ContainsFunc(line, func(r rune) bool { return r < ' ' || r > 'z' }) {
			t.Fatalf("%v is written %q", o, line)
		}
		if round%7 == 0 {
			checkOpBack(t, draw.spoiledOp(o))
		}
	}
	// Most kinds have few ops at all.
	if len(lines) < 8000 {
		t.Fatal("too few", len(lines))
	}
}

func TestDrawnLinesAreWrittenAsTheyWere(t *testing.T) {
	draw := &lottery{state: 212}
	var codes [8]int
	var kinds [15]int
	for range 60000 {
		line := draw.changedLine()
		code := checkLineBack(t, line)
		codes[code]++
		if code == impl.TextWell {
			kinds[parseOp(line).o.Kind]++
		}
	}
	// A line is never told as too long here, nor by its end.
	for code, many := range codes {
		if never := code == impl.TextLong || code == impl.TextEnd; never != (many == 0) || many > 0 && many < 500 {
			t.Errorf("the code %d is told %d times", code, many)
		}
	}
	if slices.Min(kinds[1:]) < 200 {
		t.Error("too few", kinds)
	}
}

// Every line of few words: each kind's with each number of them.
func TestEveryLineOfFewWords(t *testing.T) {
	first := []string{"", "x", "0"}
	for _, row := range lineRows() {
		first = append(first, row.word)
	}
	var codes [8]int
	behind := listsOf([]string{"", "0", "1", "-1", "8", "-", "61", "6g", "00"}, 4)
	for _, word := range first {
		for _, words := range behind {
			codes[checkLineBack(t, strings.Join(append([]string{word}, words...), " "))]++
		}
	}
	for code, many := range codes {
		if never := code == impl.TextLong || code == impl.TextEnd; never != (many == 0) {
			t.Errorf("the code %d is told %d times", code, many)
		}
	}
}

// P21: what is written is read as itself; cut behind a line it is the script of the ops ahead, cut within one that line is told.
func checkScriptCuts(t *testing.T, list []impl.Op, text string) {
	t.Helper()
	ahead, start := 0, 0
	for cut := range len(text) + 1 {
		got := parseScript(text[:cut])
		if cut > 0 && text[cut-1] == '\n' {
			ahead, start = ahead+1, cut
		}
		want := scriptAnswer{list[:ahead], ahead, impl.TextWell}
		if cut > start {
			want.code = impl.TextEnd
		}
		if !sameScript(got, want) {
			t.Fatalf("%q cut at %d is %v, want %v", text, cut, got, want)
		}
		if want.code == impl.TextWell && scriptText(list[:ahead]) != (textAnswer{text[:cut], true}) {
			t.Fatalf("%v is not %q", list[:ahead], text[:cut])
		}
	}
	if ahead != len(list) || start != len(text) {
		t.Fatalf("%q has %d lines, and %v are written", text, ahead, list)
	}
}

func TestDrawnScriptsAreReadAsThemselves(t *testing.T) {
	draw := &lottery{state: 213}
	written, refused := 0, 0
	for round := range 1500 {
		list := draw.rightOps(draw.number([]int{4, 9, 30, impl.MaxOps + 4}[round%4]))
		x := scriptText(list)
		if x != wantScriptText(list) {
			t.Fatalf("ScriptText(%v) is %v", list, x)
		}
		if !x.ok {
			refused++
			continue
		}
		if back := parseScript(x.s); !sameScript(back, scriptAnswer{list, len(list), impl.TextWell}) {
			t.Fatalf("%v is written %q and read %v", list, x.s, back)
		}
		if len(list) < 9 && round%3 == 0 {
			checkScriptCuts(t, list, x.s)
		}
		written++
	}
	if written < 1000 || refused < 3 {
		t.Fatal("too few", written, refused)
	}
	// As many lines as may be, and as many bytes.
	for _, list := range [][]impl.Op{slices.Repeat(opsDone(), 15)[:impl.MaxOps], longScript(0)} {
		x := scriptText(list)
		for cut := 0; cut <= len(x.s); cut += 1 + cut%97 {
			checkTextBack(t, x.s[:cut])
		}
		checkParseScript(t, x.s, scriptAnswer{list, len(list), impl.TextWell})
	}
	checkScriptCuts(t, opsDone(), scriptText(opsDone()).s)
}

// Scripts with a line or a byte changed, taken out, doubled or put in.
func (l *lottery) changedScript() string {
	text := wantScriptText(l.rightOps(l.number(6))).s
	lines := strings.SplitAfter(text, "\n")
	place := l.number(len(lines))
	at := l.number(len(text) + 1)
	switch l.number(7) {
	case 0:
		return text[:at]
	case 1:
		return text[at:]
	case 2:
		return strings.Join(slices.Insert(lines, place, l.changedLine()+"\n"), "")
	case 3:
		lines[place] = l.changedLine()
		return strings.Join(lines, "")
	case 4:
		return text[:at] + []string{"\n", " ", "0", "-", "\r", "\x00", "\xff", "\u00e9", "\n\n"}[l.number(9)] + text[at:]
	case 5:
		return strings.Join(slices.Insert(lines, place, lines[l.number(len(lines))]), "")
	}
	return text + l.changedLine()
}

func TestDrawnTextsAreWrittenAsTheyWere(t *testing.T) {
	draw := &lottery{state: 214}
	var codes [8]int
	var places [6]int
	for range 30000 {
		text := draw.changedScript()
		code := checkTextBack(t, text)
		codes[code]++
		if code != impl.TextWell {
			places[min(parseScript(text).n, 5)]++
		}
	}
	for code, many := range codes {
		if never := code == impl.TextLong; never != (many == 0) || many > 0 && many < 300 {
			t.Errorf("the code %d is told %d times", code, many)
		}
	}
	if slices.Min(places[:]) < 300 {
		t.Error("too few", places)
	}
}

// Every text of few pieces, so that lines begin, end and are cut in every way.
func TestEveryTextOfFewPieces(t *testing.T) {
	well := 0
	for _, pieces := range listsOf([]string{"\n", " ", "boot 0", "0", "pass", "8", "send 1 7 -"}, 6) {
		if checkTextBack(t, strings.Join(pieces, "")) == impl.TextWell {
			well++
		}
	}
	if well < 30 {
		t.Fatal("too few", well)
	}
}

// P21: two scripts one behind the other are the script of both, and a line alone is what ParseOp says of it.
func TestScriptsOneBehindTheOther(t *testing.T) {
	draw := &lottery{state: 215}
	for range 3000 {
		a, b := draw.rightOps(draw.number(5)), draw.rightOps(draw.number(5))
		both := scriptText(slices.Concat(a, b))
		if !both.ok || both.s != scriptText(a).s+scriptText(b).s {
			t.Fatal(a, b, both)
		}
		line := draw.changedLine()
		if strings.Contains(line, "\n") {
			continue
		}
		x, alone := parseScript(scriptText(a).s+line+"\n"+scriptText(b).s), parseOp(line)
		want := scriptAnswer{a, len(a), alone.code}
		if alone.code == impl.TextWell {
			want = scriptAnswer{slices.Concat(a, []impl.Op{alone.o}, b), len(a) + 1 + len(b), impl.TextWell}
		}
		if !sameScript(x, want) {
			t.Fatalf("%v, %q, %v: %v", a, line, b, x)
		}
	}
}

// A world moves by what was written and read as it moves by the ops themselves.
func TestAWorldMovesByAScriptAsByItsOps(t *testing.T) {
	draw := &lottery{state: 216}
	for range 60 {
		w := draw.world()
		var list []impl.Op
		for range 12 {
			list = append(list, draw.op(1+draw.number(14), w))
		}
		x := scriptText(list)
		read := parseScript(x.s)
		if !x.ok || !sameScript(read, scriptAnswer{list, len(list), impl.TextWell}) || !sameCourse(runOps(w, read.list), runOps(w, list)) {
			t.Fatal(w, list, x, read)
		}
	}
}

// Any bytes at all, of a few that may matter and of all.
func TestAnyBytesAsTheDocumentSays(t *testing.T) {
	draw := &lottery{state: 217}
	few := "pasbotfixnd 0178-\n\n  6g\x00\xff\xc3"
	for round := range 40000 {
		b := make([]byte, draw.number(24))
		for i := range b {
			b[i] = few[draw.number(len(few))]
			if round%2 == 0 {
				b[i] = byte(draw.number(256))
			}
		}
		s := string(b)
		checkLineBack(t, s)
		checkTextBack(t, s)
		if numOf(s) != wantNumOf(s) || fromHex(s) != wantFromHex(s) || impl.HexOf(s) != wantHexOf(s) {
			t.Fatalf("%q: %v, %v, %q", s, numOf(s), fromHex(s), impl.HexOf(s))
		}
		if back := fromHex(impl.HexOf(s)); back != (textAnswer{s, true}) {
			t.Fatalf("%q is written %q and read %v", s, impl.HexOf(s), back)
		}
	}
}

// What is written of numbers and texts is read as itself, up to what may be read.
func TestNumbersAndTextsAreReadAsThemselves(t *testing.T) {
	draw := &lottery{state: 218}
	for range 30000 {
		n := draw.nearEnds(far) * (1 - 2*draw.number(2))
		s := impl.TextOf(n)
		if s != wantTextOf(n) {
			t.Fatal(n, s)
		}
		want := numAnswer{}
		if -1000000000 < n && n < 1000000000 {
			want = numAnswer{n, true}
		}
		if got := numOf(s); got != want {
			t.Fatalf("%d is written %q and read %v", n, s, got)
		}
		text := draw.bytesText(impl.MaxBytes)
		if back := fromHex(impl.HexOf(text)); back != (textAnswer{text, true}) {
			t.Fatalf("%q is written %q and read %v", text, impl.HexOf(text), back)
		}
	}
}

// Ops in a list with room behind it, and each of their lists with room behind that.
func roomyOps(draw *lottery, n int) (list []impl.Op, room func() []impl.Op) {
	all := append(draw.rightOps(n), opPass(-7, -7), opOf(-7, -7))
	for i, o := range all {
		all[i].List = append(slices.Clone(o.List), -7, -7)[:len(o.List)]
	}
	return all[:n], func() []impl.Op {
		var whole []impl.Op
		for _, o := range all {
			o.List = slices.Clone(o.List[:len(o.List)+2])
			whole = append(whole, o)
		}
		return whole
	}
}

func opRegions(name string, list []impl.Op) []region {
	all := []region{regionOf(name, list)}
	for i, o := range list {
		all = append(all, regionOf(fmt.Sprint(name, " ", i), o.List))
	}
	return all
}

// The bytes of a text; what stands for an empty one, or of one byte, may be kept by the language itself.
func bytesRegion(name, s string) region {
	from := uintptr(unsafe.Pointer(unsafe.StringData(s)))
	return region{name, from, from + uintptr(len(s))}
}

// P23: neither the ops nor the spare room behind them are written into, and what is read has memory of its own, each list of it.
func TestScriptsShareNothing(t *testing.T) {
	draw := &lottery{state: 219}
	for _, n := range []int{0, 1, 2, 3, 30, impl.MaxOps - 1, impl.MaxOps, impl.MaxOps + 1} {
		list, room := roomyOps(draw, n)
		kept := room()
		x := scriptText(list)
		for _, o := range list {
			opLine(o)
		}
		if !sameOps(room(), kept) {
			t.Fatal("written into", n)
		}
		if !x.ok {
			continue
		}
		one, other := parseScript(x.s), parseScript(x.s)
		checkApart(t, slices.Concat(opRegions("the ops", list), opRegions("one", one.list), opRegions("the other", other.list)))
		for i := range one.list {
			overwrite(one.list[i].List, -9)
		}
		overwrite(one.list, impl.Op{Kind: -9})
		if !sameScript(other, scriptAnswer{list, n, impl.TextWell}) || !sameOps(room(), kept) || scriptText(list) != x {
			t.Fatal("shared", n)
		}
		// Also what is told beside a code.
		told := parseScript(x.s + "fly\n")
		checkApart(t, slices.Concat(opRegions("the other", other.list), opRegions("what is told", told.list)))
		if n < impl.MaxOps && !sameScript(told, scriptAnswer{list, n, impl.TextWord}) {
			t.Fatal(n, told.code)
		}
	}
	for _, o := range append(rightOps(), opPass(1, 2, 3)) {
		line := opLine(o).s
		one, other := parseOp(line), parseOp(line)
		checkApart(t, []region{regionOf("the op", o.List), regionOf("one", one.o.List), regionOf("the other", other.o.List)})
		if len(o.Text) > 1 {
			checkApart(t, []region{bytesRegion("the op", o.Text), bytesRegion("the line", line), bytesRegion("one", one.o.Text), bytesRegion("the other", other.o.Text)})
		}
	}
}

// P23: one script may be read by several at once, and each tells what it tells alone.
func TestOneScriptReadBySeveralAtOnce(t *testing.T) {
	draw := &lottery{state: 220}
	lists := [][]impl.Op{draw.rightOps(60), opsDone(), longScript(0), longScript(1), nil, {opOf(impl.OpBoot, 8)}}
	var all sync.WaitGroup
	for range 6 {
		for _, list := range lists {
			want := wantScriptText(list)
			read := wantParseScript(want.s + "boot x\n")
			all.Go(func() {
				for range 10 {
					if got := scriptText(list); got != want {
						t.Error(list, got)
					}
					if got := parseScript(want.s + "boot x\n"); !sameScript(got, read) {
						t.Error(list, got)
					}
				}
			})
		}
	}
	all.Wait()
}

// P23: at any arguments, however far out, each call tells what the document says.
func TestScriptsAtAnyArguments(t *testing.T) {
	numbers := []int{math.MinInt, -far, -999999999, -impl.MaxPass - 1, -impl.MaxPass, -1, 0, 1, 7, 8, 14, 15, 39, 40, impl.MaxPass, impl.MaxPass + 1, far, math.MaxInt}
	texts := []string{"", "x", "\xff\x00", strings.Repeat("x", impl.MaxBody), strings.Repeat("x", impl.MaxBody+1), strings.Repeat("x", impl.MaxBytes), strings.Repeat("x", impl.MaxBytes+1), strings.Repeat("x", 100000)}
	for i, kind := range append(manyKinds(), numbers...) {
		for j, x := range numbers {
			for k, y := range numbers {
				text := texts[(i+j+k)%len(texts)]
				for _, o := range []impl.Op{
					{Kind: kind, Node: x, To: y}, {Kind: kind, Node: x, A: y}, {Kind: kind, A: x, B: y}, {Kind: kind, A: x, List: []int{y, x}},
					{Kind: kind, Node: x, A: y, Text: text}, {Kind: kind, Node: x, To: y, Text: text}, {Kind: kind, Node: x, To: y, A: x, B: y, Text: text, List: make([]int, (j*k)%12)},
				} {
					checkOpBack(t, o)
					if got := scriptText([]impl.Op{o}); got != wantScriptText([]impl.Op{o}) {
						t.Fatal(o, got)
					}
				}
				for _, row := range lineRows() {
					checkLineBack(t, fmt.Sprintf("%s %d %d", row.word, x, y))
				}
			}
			checkTextOf(t, x, wantTextOf(x))
		}
	}
	for _, s := range texts {
		checkHexOf(t, s, wantHexOf(s))
		checkNumOf(t, s, numAnswer{})
		checkFromHex(t, s, textAnswer{})
		checkParseOp(t, s, wantParseOp(s))
		checkParseScript(t, s, wantParseScript(s))
	}
	huge := slices.Repeat([]impl.Op{opPass(1)}, 100000)
	checkScriptText(t, huge[:300], textAnswer{})
	if got := scriptText(huge); got != (textAnswer{}) {
		t.Error(len(got.s), got.ok)
	}
	checkParseScript(t, strings.Repeat("pass 1\n", 100000), scriptAnswer{code: impl.TextLong})
}
