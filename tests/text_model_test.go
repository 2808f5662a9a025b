package tests

import (
	"encoding/hex"
	"fmt"
	"math"
	"regexp"
	"slices"
	"strconv"
	"strings"

	"loop.example/g00072/impl"
)

// What the document says of scripts, written again: numbers and texts by the patterns of their forms, lines by a letter for each word behind the first one.

type textAnswer struct {
	s  string
	ok bool
}

type opAnswer struct {
	o    impl.Op
	code int
}

type scriptAnswer struct {
	list []impl.Op
	n    int
	code int
}

func sameOp(a, b impl.Op) bool {
	numbers := func(o impl.Op) [5]int { return [5]int{o.Kind, o.Node, o.To, o.A, o.B} }
	return numbers(a) == numbers(b) && a.Text == b.Text && slices.Equal(a.List, b.List)
}

func sameOps(a, b []impl.Op) bool { return slices.EqualFunc(a, b, sameOp) }

func sameOpAnswer(a, b opAnswer) bool { return sameOp(a.o, b.o) && a.code == b.code }

func sameScript(a, b scriptAnswer) bool {
	return sameOps(a.list, b.list) && a.n == b.n && a.code == b.code
}

func numOf(s string) (x numAnswer) {
	x.n, x.ok = impl.NumOf(s)
	return x
}

func fromHex(s string) (x textAnswer) {
	x.s, x.ok = impl.FromHex(s)
	return x
}

func opLine(o impl.Op) (x textAnswer) {
	x.s, x.ok = impl.OpLine(o)
	return x
}

func parseOp(line string) (x opAnswer) {
	x.o, x.code = impl.ParseOp(line)
	return x
}

func scriptText(list []impl.Op) (x textAnswer) {
	x.s, x.ok = impl.ScriptText(list)
	return x
}

func parseScript(text string) (x scriptAnswer) {
	x.list, x.n, x.code = impl.ParseScript(text)
	return x
}

// Digit by digit, over numbers without bound, as the least number has no other sign in 64 bits.
func wantTextOf(n int) string {
	left, ten, digits := bigOf(n), bigOf(10), ""
	left.Abs(left)
	for left.Sign() > 0 {
		_, digit := left.QuoRem(left, ten, bigOf(0))
		digits = string(rune('0'+digit.Int64())) + digits
	}
	switch {
	case n < 0:
		return "-" + digits
	case n == 0:
		return "0"
	}
	return digits
}

var (
	formOfNum = regexp.MustCompile(`\A(0|-?[1-9][0-9]{0,8})\z`)
	formOfHex = regexp.MustCompile(`\A([0-9a-f][0-9a-f]){1,64}\z`)
)

func wantNumOf(s string) numAnswer {
	if !formOfNum.MatchString(s) {
		return numAnswer{}
	}
	n, _ := strconv.ParseInt(s, 10, 64)
	return numAnswer{int(n), true}
}

func wantHexOf(s string) string {
	switch {
	case len(s) > 64:
		return ""
	case s == "":
		return "-"
	}
	return fmt.Sprintf("%x", s)
}

func wantFromHex(s string) textAnswer {
	if s == "-" {
		return textAnswer{"", true}
	}
	if !formOfHex.MatchString(s) {
		return textAnswer{}
	}
	b, _ := hex.DecodeString(s)
	return textAnswer{string(b), true}
}

// The document's table: the first word, and a letter for each further one: n for Node, t for To, a and b for A and B, x for the text; l for each number of the list, which may be as many as there are nodes.
type lineRow struct {
	kind  int
	word  string
	words string
}

func lineRows() []lineRow {
	return []lineRow{
		{impl.OpPass, "pass", "a"}, {impl.OpBoot, "boot", "n"}, {impl.OpCrash, "crash", "n"}, {impl.OpFix, "fix", "nab"}, {impl.OpAsk, "ask", "nt"},
		{impl.OpTick, "tick", "n"}, {impl.OpFuse, "fuse", "n"}, {impl.OpRead, "read", "n"}, {impl.OpSend, "send", "nax"}, {impl.OpDeliver, "deliver", "a"},
		{impl.OpDrop, "drop", "a"}, {impl.OpDouble, "double", "a"}, {impl.OpMove, "move", "ab"}, {impl.OpForge, "forge", "ntx"},
	}
}

func lineRowOf(word string) (lineRow, bool) {
	for _, row := range lineRows() {
		if row.word == word {
			return row, true
		}
	}
	return lineRow{}, false
}

// The letters of a line with so many words behind the first one.
func (r lineRow) letters(many int) string {
	if r.kind == impl.OpPass {
		return "a" + strings.Repeat("l", min(max(many-1, 0), impl.MaxNodes))
	}
	return r.words
}

func wantOpLine(o impl.Op) textAnswer {
	if !wantOpOk(o) {
		return textAnswer{}
	}
	row := lineRows()[o.Kind-1]
	line, listed := row.word, 0
	for _, letter := range row.letters(1 + len(o.List)) {
		switch letter {
		case 'n':
			line += " " + wantTextOf(o.Node)
		case 't':
			line += " " + wantTextOf(o.To)
		case 'a':
			line += " " + wantTextOf(o.A)
		case 'b':
			line += " " + wantTextOf(o.B)
		case 'l':
			line += " " + wantTextOf(o.List[listed])
			listed++
		case 'x':
			line += " " + wantHexOf(o.Text)
		}
	}
	return textAnswer{line, true}
}

// What one word says, put where its letter says, or the code.
func wantWord(o *impl.Op, letter rune, word string) int {
	if letter == 'x' {
		text := wantFromHex(word)
		o.Text = text.s
		if !text.ok {
			return impl.TextHex
		}
		return impl.TextWell
	}
	number := wantNumOf(word)
	switch letter {
	case 'n':
		o.Node = number.n
	case 't':
		o.To = number.n
	case 'a':
		o.A = number.n
	case 'b':
		o.B = number.n
	case 'l':
		o.List = append(o.List, number.n)
	}
	if !number.ok {
		return impl.TextNum
	}
	return impl.TextWell
}

func wantParseOp(line string) opAnswer {
	if len(line) > 20000 {
		return opAnswer{code: impl.TextLong}
	}
	words := strings.Split(line, " ")
	row, ok := lineRowOf(words[0])
	if !ok {
		return opAnswer{code: impl.TextWord}
	}
	letters := row.letters(len(words) - 1)
	if len(words) != 1+len(letters) {
		return opAnswer{code: impl.TextMany}
	}
	o := impl.Op{Kind: row.kind}
	for i, letter := range letters {
		if code := wantWord(&o, letter, words[1+i]); code != impl.TextWell {
			return opAnswer{code: code}
		}
	}
	if !wantOpOk(o) {
		return opAnswer{code: impl.TextOp}
	}
	return opAnswer{o, impl.TextWell}
}

func wantScriptText(list []impl.Op) textAnswer {
	text := ""
	for _, o := range list {
		line := wantOpLine(o)
		if !line.ok {
			return textAnswer{}
		}
		text += line.s + "\x0a"
	}
	if len(list) > 200 || len(text) > 20000 {
		return textAnswer{}
	}
	return textAnswer{text, true}
}

// From the front on, as long as something is left.
func wantParseScript(text string) scriptAnswer {
	if len(text) > 20000 {
		return scriptAnswer{code: impl.TextLong}
	}
	var list []impl.Op
	for n := 0; text != ""; n++ {
		line, behind, ended := strings.Cut(text, "\x0a")
		x := wantParseOp(line)
		switch {
		case n == 200:
			x = opAnswer{code: impl.TextLong}
		case !ended:
			x = opAnswer{code: impl.TextEnd}
		}
		if x.code != impl.TextWell {
			return scriptAnswer{list, n, x.code}
		}
		list, text = append(list, x.o), behind
	}
	return scriptAnswer{list, len(list), impl.TextWell}
}

// A right op of each kind with its line, spelt out.
func spelt() map[string]impl.Op {
	return map[string]impl.Op{
		"pass 0":                     opPass(0),
		"pass 5":                     opPass(5),
		"pass 5 -1 2":                opPass(5, -1, 2),
		"pass 1000000 0":             opPass(impl.MaxPass, 0),
		"pass 7 1 2 3 4 5 6 7 8":     opPass(7, 1, 2, 3, 4, 5, 6, 7, 8),
		"pass 0 1000000 -1000000 -1": opPass(0, impl.MaxPass, -impl.MaxPass, -1),
		"boot 0":                     opOf(impl.OpBoot, 0),
		"boot 7":                     opOf(impl.OpBoot, 7),
		"crash 3":                    opOf(impl.OpCrash, 3),
		"tick 4":                     opOf(impl.OpTick, 4),
		"fuse 5":                     opOf(impl.OpFuse, 5),
		"read 6":                     opOf(impl.OpRead, 6),
		"fix 1 2 3":                  opFix(1, 2, 3),
		"fix 0 0 1000000":            opFix(0, 0, impl.MaxPass),
		"ask 1 2":                    opAsk(1, 2),
		"ask 7 0":                    opAsk(7, 0),
		"send 1 7 6130":              opSend(1, 7, "a0"),
		"send 2 1000000 -":           opSend(2, impl.MaxPass, ""),
		"send 0 0 20":                opSend(0, 0, " "),
		"send 0 0 0a":                opSend(0, 0, "\n"),
		"send 0 0 2d":                opSend(0, 0, "-"),
		"send 0 0 00ff80c3a9":        opSend(0, 0, "\x00\xff\x80\u00e9"),
		"deliver 0":                  opAt(impl.OpDeliver, 0),
		"deliver 39":                 opAt(impl.OpDeliver, 39),
		"drop 10":                    opAt(impl.OpDrop, 10),
		"double 21":                  opAt(impl.OpDouble, 21),
		"move 1 2":                   opMove(1, 2),
		"move 39 39":                 opMove(39, 39),
		"forge 1 2 6c6965":           opForge(1, 2, "lie"),
		"forge 2 1 -":                opForge(2, 1, ""),
	}
}

// One line of each kind, in the order of the kinds.
func plainLines() []string {
	var lines []string
	for _, o := range opsDone() {
		lines = append(lines, wantOpLine(o).s)
	}
	return lines
}

// Texts that are the number of none, though some readers of numbers would take them.
func wrongNums() []string {
	return []string{
		"", "-", "+", "--", "-0", "+0", "00", "-00", "01", "-01", "007", "+1", "--1", "-+1", "1-", "1+", "1 ", " 1", "1.", "1.0", ".5", "1,000", "1_000", "0x1", "0b1", "0o7", "1e3", "x", "a1", "1a",
		"1\n", "\n1", "1\r", "\t1", "1\x00", "\x00", "\xff", "1\xff", "\uff11", "\u0661", "1\u00a0", "\u22121", "1000000000", "-1000000000", "0000000001", "9223372036854775807", "9223372036854775808", "-9223372036854775808",
		"18446744073709551617", strings.Repeat("1", 5000), strings.Repeat("0", 10), "nan", "inf", "true",
	}
}

// Words that are the text of none in hexadecimal digits.
func wrongHexes() []string {
	return []string{
		"", "--", "-6", "6-", "-61", "61-", "6", "613", "6g", "g6", "6A", "A6", "FF", "fF", "0x61", "61\n", "6 1", "+6", "6\x00", "\x00\x00", "\xff\xff", "6\xff", "\u00e9", "\uff16\uff11", "/0", "0/", ":0", "0:", "`0", "0`", "@0",
		strings.Repeat("61", impl.MaxBytes) + "6", strings.Repeat("61", impl.MaxBytes+1), strings.Repeat("61", 5000),
	}
}

// Words that are near to one of the table, and none.
func wrongWords() []string {
	all := []string{"", "fly", "-", "0", "7", "passs", "boot0", "none", "show", "PASS", "Boot", "f", "pass\t", "\x00", "\xff", "\u00e9", "#", "op", "crash\r", "booot", "what"}
	for _, row := range lineRows() {
		all = append(all, row.word[1:], row.word[:len(row.word)-1], row.word+"s", row.word+"\n", "\n"+row.word, row.word+"\x00", strings.ToUpper(row.word), strings.ToUpper(row.word[:1])+row.word[1:], row.word+row.word)
	}
	return all
}

// A number from 0 to most, of any size, now and then at one of both ends.
func (l *lottery) nearEnds(most int) int {
	if l.number(3) > 0 {
		return l.upTo(most)
	}
	return []int{0, min(1, most), max(most-1, 0), most}[l.number(4)]
}

func (l *lottery) bytesText(most int) string {
	b := make([]byte, l.nearEnds(most))
	for i := range b {
		b[i] = byte(l.number(256))
	}
	return string(b)
}

// Any op that is right, of that kind.
func (l *lottery) rightOp(kind int) impl.Op {
	row, _ := rowOfKind(kind)
	o := impl.Op{Kind: kind}
	put := func(field *int, most int) {
		if most != unnamed {
			*field = l.nearEnds(most)
		}
	}
	put(&o.Node, row.node)
	put(&o.A, row.a)
	put(&o.B, row.b)
	if row.to != unnamed {
		o.To = (o.Node + 1 + l.number(impl.MaxNodes-1)) % impl.MaxNodes
	}
	if row.text != unnamed {
		o.Text = l.bytesText(row.text)
	}
	for range l.nearEnds(max(row.list, 0)) {
		o.List = append(o.List, l.nearEnds(2*impl.MaxPass)-impl.MaxPass)
	}
	return o
}

func (l *lottery) rightOps(n int) []impl.Op {
	var list []impl.Op
	for range n {
		list = append(list, l.rightOp(1+l.number(14)))
	}
	return list
}

// A right line with something changed in it, as often as not to another right one.
func (l *lottery) changedLine() string {
	line := wantOpLine(l.rightOp(1 + l.number(14))).s
	words := strings.Split(line, " ")
	place := l.number(len(words))
	at := l.number(len(line) + 1)
	pool := []string{"", "0", "1", "7", "8", "39", "40", "-1", "1000000", "1000001", "-1000000", "-1000001", "999999999", "1000000000", "-", "61", "6g", "00", "-0", "x", "boot", "pass"}
	switch l.number(8) {
	case 0:
		return line
	case 1:
		return line[:at]
	case 2:
		return line[:at] + []string{" ", "0", "-", "1", "f", "F", "\n", "\t", "\x00", "\xff", "\u00e9", "x"}[l.number(12)] + line[at:]
	case 3:
		return strings.Join(slices.Delete(words, place, place+1), " ")
	case 4:
		return strings.Join(slices.Insert(words, place, pool[l.number(len(pool))]), " ")
	case 5:
		words[0] = lineRows()[l.number(14)].word
		return strings.Join(words, " ")
	case 6:
		b := []byte(line)
		b[l.number(len(b))] ^= 1 << l.number(8)
		return string(b)
	}
	words[place] = pool[l.number(len(pool))]
	return strings.Join(words, " ")
}

// As long as a script may be, or by so many bytes longer or shorter: forged texts, and at the end one that fills it up.
func longScript(more int) []impl.Op {
	var list []impl.Op
	left := impl.MaxScript + more
	for left > 400 {
		list = append(list, opForge(1, 2, strings.Repeat("x", impl.MaxBytes)))
		left -= len("forge 1 2 ") + 2*impl.MaxBytes + 1
	}
	// A forge has an odd number of bytes with its end, so an even number of bytes wants one more line of an odd number.
	for left > 139 {
		list = append(list, opPass(3))
		left -= len("pass 3\n")
	}
	if left%2 == 0 {
		list = append(list, opPass(3))
		left -= len("pass 3\n")
	}
	return append(list, opForge(1, 2, strings.Repeat("x", (left-len("forge 1 2 \n"))/2)))
}

// Numbers around each count of digits, and the ends of all numbers.
func digitNumbers() []int {
	list := []int{math.MinInt, math.MinInt + 1, math.MaxInt - 1, math.MaxInt, 0}
	power := 1
	for range 19 {
		list = append(list, power-1, power, power+1, 1-power, -power, -1-power)
		power *= 10
	}
	return list
}
