package tests

import (
	"fmt"
	"math"
	"slices"
	"strings"
	"testing"

	"loop.example/g00072/impl"
)

func checkTextOf(t *testing.T, n int, want string) {
	t.Helper()
	if got := impl.TextOf(n); got != want || wantTextOf(n) != want {
		t.Fatalf("TextOf(%d) is %q, want %q", n, got, want)
	}
}

func checkNumOf(t *testing.T, s string, want numAnswer) {
	t.Helper()
	if got := numOf(s); got != want || wantNumOf(s) != want {
		t.Fatalf("NumOf(%q) is %v, want %v", s, got, want)
	}
}

func checkHexOf(t *testing.T, s string, want string) {
	t.Helper()
	if got := impl.HexOf(s); got != want || wantHexOf(s) != want {
		t.Fatalf("HexOf(%q) is %q, want %q", s, got, want)
	}
}

func checkFromHex(t *testing.T, s string, want textAnswer) {
	t.Helper()
	if got := fromHex(s); got != want || wantFromHex(s) != want {
		t.Fatalf("FromHex(%q) is %v, want %v", s, got, want)
	}
}

func checkOpLine(t *testing.T, o impl.Op, want textAnswer) {
	t.Helper()
	if got := opLine(o); got != want || wantOpLine(o) != want {
		t.Fatalf("OpLine(%v) is %v, want %v", o, got, want)
	}
}

func checkParseOp(t *testing.T, line string, want opAnswer) {
	t.Helper()
	if got := parseOp(line); !sameOpAnswer(got, want) {
		t.Fatalf("ParseOp(%.300q) is %v, want %v", line, got, want)
	}
	if own := wantParseOp(line); !sameOpAnswer(own, want) {
		t.Fatalf("ParseOp(%.300q): the document read again tells %v, and not %v", line, own, want)
	}
}

// That it is refused, with nothing beside the code.
func checkLineCode(t *testing.T, line string, code int) {
	t.Helper()
	checkParseOp(t, line, opAnswer{code: code})
}

func checkScriptText(t *testing.T, list []impl.Op, want textAnswer) {
	t.Helper()
	if got := scriptText(list); got != want || wantScriptText(list) != want {
		t.Fatalf("ScriptText(%v) is %v, want %v", list, got, want)
	}
}

func checkParseScript(t *testing.T, text string, want scriptAnswer) {
	t.Helper()
	if got := parseScript(text); !sameScript(got, want) {
		t.Fatalf("ParseScript(%.300q) is %v, want %v", text, got, want)
	}
	if own := wantParseScript(text); !sameScript(own, want) {
		t.Fatalf("ParseScript(%.300q): the document read again tells %v, and not %v", text, own, want)
	}
}

// The ops ahead, and the line behind them with its code.
func checkScriptCode(t *testing.T, text string, code int, ahead ...impl.Op) {
	t.Helper()
	checkParseScript(t, text, scriptAnswer{ahead, len(ahead), code})
}

func TestNumbersOfTheScripts(t *testing.T) {
	codes := []int{impl.TextWell, impl.TextLong, impl.TextWord, impl.TextMany, impl.TextNum, impl.TextHex, impl.TextOp, impl.TextEnd}
	for want, code := range codes {
		if code != want {
			t.Error(want, code)
		}
	}
	if impl.MaxScript != 20000 {
		t.Error(impl.MaxScript)
	}
	for i, row := range lineRows() {
		if row.kind != i+1 || row.word != opName(row.kind) {
			t.Error(i, row)
		}
	}
}

func TestTextOf(t *testing.T) {
	for n, want := range map[int]string{
		0: "0", 1: "1", -1: "-1", 9: "9", 10: "10", -10: "-10", 100: "100", -120: "-120", 1000000: "1000000", -1000001: "-1000001", 999999999: "999999999", 1000000000: "1000000000",
		far: "1000000000000", -far: "-1000000000000", math.MaxInt: "9223372036854775807", math.MinInt: "-9223372036854775808",
	} {
		checkTextOf(t, n, want)
	}
	for _, n := range digitNumbers() {
		checkTextOf(t, n, fmt.Sprint(n))
	}
	for n := -3000; n <= 3000; n++ {
		checkTextOf(t, n, fmt.Sprint(n))
	}
}

func TestNumOf(t *testing.T) {
	for s, want := range map[string]int{
		"0": 0, "1": 1, "-1": -1, "9": 9, "10": 10, "-12": -12, "100": 100, "1000000": impl.MaxPass, "-1000000": -impl.MaxPass,
		"99999999": 99999999, "100000000": 100000000, "999999999": 999999999, "-100000000": -100000000, "-999999999": -999999999,
	} {
		checkNumOf(t, s, numAnswer{want, true})
	}
	for _, s := range wrongNums() {
		checkNumOf(t, s, numAnswer{})
	}
	for n := -3000; n <= 3000; n++ {
		checkNumOf(t, fmt.Sprint(n), numAnswer{n, true})
	}
	// Nine digits are read and ten are not, whatever is ahead of them.
	for _, n := range digitNumbers() {
		want := numAnswer{}
		if -999999999 <= n && n <= 999999999 {
			want = numAnswer{n, true}
		}
		checkNumOf(t, fmt.Sprint(n), want)
		if n >= 0 {
			checkNumOf(t, "0"+fmt.Sprint(n), numAnswer{})
			checkNumOf(t, "-0"+fmt.Sprint(n), numAnswer{})
			checkNumOf(t, "+"+fmt.Sprint(n), numAnswer{})
		}
	}
	for digits := 1; digits < 40; digits++ {
		for _, digit := range []string{"1", "9"} {
			if got := numOf(strings.Repeat(digit, digits)); got.ok != (digits <= 9) {
				t.Fatal(digit, digits, got)
			}
			if got := numOf("-" + strings.Repeat(digit, digits)); got.ok != (digits <= 9) {
				t.Fatal(digit, digits, got)
			}
		}
	}
}

// All texts of few bytes, of those that a number may have and some that it may not: each one that is read is written as it was.
func TestEveryShortNumber(t *testing.T) {
	read := 0
	for _, letters := range listsOf([]string{"-", "0", "1", "9", "+", " ", "_", "a"}, 5) {
		s := strings.Join(letters, "")
		got := numOf(s)
		if got != wantNumOf(s) || got.ok && impl.TextOf(got.n) != s {
			t.Fatalf("NumOf(%q) is %v", s, got)
		}
		if got.ok {
			read++
		}
	}
	// One nought, and those of up to five digits, or of up to four behind a sign, that do not begin with one.
	if want := 1 + 2*(1+3+9+27+81) + 2*(1+3+9+27); read != want {
		t.Fatal(read, want)
	}
}

func TestHexOf(t *testing.T) {
	for s, want := range map[string]string{
		"": "-", "a0": "6130", "-": "2d", "\x00": "00", "\x0f\xf0": "0ff0", "\xff": "ff", "\u00e9": "c3a9", " \n": "200a", "lie": "6c6965", "\xab\xcd\xef": "abcdef", "\x01\x23\x45\x67\x89": "0123456789",
	} {
		checkHexOf(t, s, want)
	}
	for x := range 256 {
		checkHexOf(t, string([]byte{byte(x)}), fmt.Sprintf("%02x", x))
	}
	for n := 1; n < 300; n++ {
		want := strings.Repeat("7a", n)
		if n > impl.MaxBytes {
			want = ""
		}
		checkHexOf(t, strings.Repeat("z", n), want)
	}
	// By bytes, not by letters.
	checkHexOf(t, strings.Repeat("\u00e9", 32), strings.Repeat("c3a9", 32))
	checkHexOf(t, strings.Repeat("\u00e9", 33), "")
	checkHexOf(t, strings.Repeat("\xff", 64), strings.Repeat("ff", 64))
}

func TestFromHex(t *testing.T) {
	for s, want := range map[string]string{"-": "", "6130": "a0", "2d": "-", "00": "\x00", "ff": "\xff", "0ff0": "\x0f\xf0", "c3a9": "\u00e9", "200a": " \n"} {
		checkFromHex(t, s, textAnswer{want, true})
	}
	for _, s := range wrongHexes() {
		checkFromHex(t, s, textAnswer{})
	}
	for n := range 300 {
		want := textAnswer{strings.Repeat("z", n), true}
		if n == 0 || n > impl.MaxBytes {
			want = textAnswer{}
		}
		checkFromHex(t, strings.Repeat("7a", n), want)
		checkFromHex(t, strings.Repeat("7a", n)+"7", textAnswer{})
		checkFromHex(t, strings.Repeat("7a", n)+"-", map[bool]textAnswer{true: {"", true}}[n == 0])
	}
}

// Of all bytes, two by two, those that are both digits are read; all others are not, wherever they stand.
func TestEveryPairOfDigits(t *testing.T) {
	read := 0
	for x := range 256 {
		for y := range 256 {
			s := string([]byte{byte(x), byte(y)})
			got := fromHex(s)
			if got != wantFromHex(s) || got.ok && impl.HexOf(got.s) != s {
				t.Fatalf("FromHex(%q) is %v", s, got)
			}
			if got.ok {
				read++
			} else if fromHex("61"+s) != (textAnswer{}) || fromHex(s+"61") != (textAnswer{}) {
				t.Fatalf("%q is read beside others", s)
			}
		}
	}
	if read != 256 {
		t.Fatal(read)
	}
}

func TestOpLineAndBack(t *testing.T) {
	kinds := map[int]bool{}
	for line, o := range spelt() {
		checkOpLine(t, o, textAnswer{line, true})
		checkParseOp(t, line, opAnswer{o, impl.TextWell})
		kinds[o.Kind] = true
	}
	if len(kinds) != 14 {
		t.Error(kinds)
	}
	for _, o := range rightOps() {
		x := wantOpLine(o)
		checkOpLine(t, o, x)
		if !x.ok {
			t.Fatal(o)
		}
		checkParseOp(t, x.s, opAnswer{o, impl.TextWell})
	}
	for name, o := range wrongOps() {
		if got := opLine(o); got != (textAnswer{}) || wantOpLine(o) != (textAnswer{}) {
			t.Errorf("%s: %v", name, got)
		}
	}
	// The longest ones that there are.
	checkOpLine(t, opForge(1, 2, strings.Repeat("\xff", impl.MaxBytes)), textAnswer{"forge 1 2 " + strings.Repeat("ff", impl.MaxBytes), true})
	checkOpLine(t, opSend(1, impl.MaxPass, strings.Repeat("\xff", impl.MaxBody)), textAnswer{"send 1 1000000 " + strings.Repeat("ff", impl.MaxBody), true})
	all := slices.Repeat([]int{-impl.MaxPass}, impl.MaxNodes)
	checkOpLine(t, opPass(impl.MaxPass, all...), textAnswer{"pass 1000000" + strings.Repeat(" -1000000", impl.MaxNodes), true})
}

// No two kinds have one word, and no word is read for another kind.
func TestEachKindHasItsWord(t *testing.T) {
	words := map[string]int{}
	for _, o := range rightOps() {
		word, _, _ := strings.Cut(opLine(o).s, " ")
		if kind, there := words[word]; there && kind != o.Kind || word == "" {
			t.Fatal(word, kind, o.Kind)
		}
		words[word] = o.Kind
	}
	if len(words) != 14 {
		t.Fatal(words)
	}
}

// TextLong: by bytes, at its limit and past it, ahead of all else, even where the words would be right.
func TestLinesThatAreTooLong(t *testing.T) {
	fill := func(start string, long int) string { return start + strings.Repeat("x", long-len(start)) }
	for code, start := range map[int]string{
		impl.TextWord: "fly", impl.TextMany: "boot 1 2 ", impl.TextNum: "boot 1", impl.TextHex: "send 1 2 6",
	} {
		checkLineCode(t, fill(start, impl.MaxScript-1), code)
		checkLineCode(t, fill(start, impl.MaxScript), code)
		checkLineCode(t, fill(start, impl.MaxScript+1), impl.TextLong)
		checkLineCode(t, fill(start, 2*impl.MaxScript), impl.TextLong)
	}
	// Words without end, and none at all.
	for _, blanks := range []int{1, 2, 3, impl.MaxScript - 1, impl.MaxScript} {
		checkLineCode(t, strings.Repeat(" ", blanks), impl.TextWord)
	}
	checkLineCode(t, strings.Repeat(" ", impl.MaxScript+1), impl.TextLong)
	checkLineCode(t, "pass"+strings.Repeat(" 1", (impl.MaxScript-4)/2), impl.TextMany)
	checkLineCode(t, "pass"+strings.Repeat(" 1", (impl.MaxScript-4)/2+1), impl.TextLong)
	// By bytes, not by letters.
	checkLineCode(t, strings.Repeat("\u00e9", impl.MaxScript/2), impl.TextWord)
	checkLineCode(t, strings.Repeat("\u00e9", impl.MaxScript/2+1), impl.TextLong)
}

// TextWord: ahead of how many words there are and of what they say.
func TestWordsThatAreNone(t *testing.T) {
	for _, word := range wrongWords() {
		checkLineCode(t, word, impl.TextWord)
		for _, line := range plainLines() {
			_, behind, _ := strings.Cut(line, " ")
			checkLineCode(t, word+" "+behind, impl.TextWord)
			checkLineCode(t, word+" "+line, impl.TextWord)
		}
		for _, behind := range []string{" ", "  ", " 1", " x", " 1 2 6g", " 99", " 1 2 3 4 5 6 7 8 9 10 11 12"} {
			checkLineCode(t, word+behind, impl.TextWord)
		}
	}
	// Words are parted by blanks alone.
	for _, line := range plainLines() {
		for _, mark := range []string{"\t", "\n", "\r", "\v", "\x00", ",", "\u00a0", "\u2003", "\x85", "\xa0"} {
			checkLineCode(t, strings.ReplaceAll(line, " ", mark), impl.TextWord)
			checkLineCode(t, mark+line, impl.TextWord)
			checkLineCode(t, strings.Replace(line, " ", mark+" ", 1), impl.TextWord)
		}
	}
}

// TextMany: ahead of what the words say, for each kind, with each number of words.
func TestAsManyWordsAsTheTableSays(t *testing.T) {
	for _, row := range lineRows() {
		for many := range 14 {
			fits := many == len(row.words)
			if row.kind == impl.OpPass {
				fits = 1 <= many && many <= 1+impl.MaxNodes
			}
			for _, word := range []string{"0", "1", "99999999", "1000000000", "x", "", "-", "61", "6g"} {
				line := row.word + strings.Repeat(" "+word, many)
				if got := parseOp(line); (got.code == impl.TextMany) == fits || !sameOpAnswer(got, wantParseOp(line)) {
					t.Fatalf("ParseOp(%q) is %v", line, got)
				}
			}
		}
	}
	checkLineCode(t, "pass", impl.TextMany)
	checkParseOp(t, "pass 1", opAnswer{opPass(1), impl.TextWell})
	checkParseOp(t, "pass 0 1 2 3 4 5 6 7 8", opAnswer{opPass(0, 1, 2, 3, 4, 5, 6, 7, 8), impl.TextWell})
	checkLineCode(t, "pass 0 1 2 3 4 5 6 7 8 9", impl.TextMany)
	checkLineCode(t, "boot", impl.TextMany)
	checkLineCode(t, "boot 0 0", impl.TextMany)
	checkLineCode(t, "send 1 2", impl.TextMany)
	checkLineCode(t, "send 1 2 61 62", impl.TextMany)
}

// The codes of a word that is wrong, for each kind and each of its words, whatever stands behind it; what stands ahead of it counts first.
func TestWordByWord(t *testing.T) {
	for i, o := range opsDone() {
		words := strings.Split(plainLines()[i], " ")
		letters := lineRows()[i].letters(len(words) - 1)
		for place := 1; place < len(words); place++ {
			wrong, code := wrongNums(), impl.TextNum
			if letters[place-1] == 'x' {
				wrong, code = wrongHexes(), impl.TextHex
			}
			for _, word := range wrong {
				// A blank within it would make it two.
				if strings.Contains(word, " ") {
					continue
				}
				changed := slices.Clone(words)
				changed[place] = word
				checkLineCode(t, strings.Join(changed, " "), code)
				// All behind it is wrong as well.
				for behind := place + 1; behind < len(words); behind++ {
					changed[behind] = []string{"6g", "", "-0"}[behind%3]
				}
				checkLineCode(t, strings.Join(changed, " "), code)
				// What would not be OpOk comes behind what is no number.
				for ahead := 1; ahead < place; ahead++ {
					changed[ahead] = "999999999"
				}
				checkLineCode(t, strings.Join(changed, " "), code)
			}
		}
		checkParseOp(t, strings.Join(words, " "), opAnswer{o, impl.TextWell})
	}
}

// TextOp: each field of each kind past its bounds, where all words are well.
func TestLinesOfOpsThatAreNone(t *testing.T) {
	for i, row := range lineRows() {
		words := strings.Split(plainLines()[i], " ")
		letters := row.letters(len(words) - 1)
		bounds := opRows()[i]
		for place, letter := range letters {
			most, least := map[rune]int{'n': bounds.node, 't': bounds.to, 'a': bounds.a, 'b': bounds.b, 'l': impl.MaxPass}[letter], 0
			if letter == 'x' {
				changed := slices.Clone(words)
				for long := range impl.MaxBytes + 1 {
					changed[1+place] = wantHexOf(strings.Repeat("x", long))
					got := parseOp(strings.Join(changed, " "))
					if want := map[bool]int{true: impl.TextWell, false: impl.TextOp}[long <= bounds.text]; got.code != want {
						t.Fatal(changed, got)
					}
				}
				continue
			}
			if letter == 'l' {
				least = -impl.MaxPass
			}
			for _, n := range []int{-999999999, least - 1, most + 1, 999999999} {
				changed := slices.Clone(words)
				changed[1+place] = fmt.Sprint(n)
				checkLineCode(t, strings.Join(changed, " "), impl.TextOp)
			}
		}
	}
	for node := range impl.MaxNodes {
		checkLineCode(t, fmt.Sprintf("ask %d %d", node, node), impl.TextOp)
		checkLineCode(t, fmt.Sprintf("forge %d %d 61", node, node), impl.TextOp)
	}
	checkLineCode(t, "boot 8", impl.TextOp)
	checkLineCode(t, "boot -1", impl.TextOp)
	checkLineCode(t, "pass 1000001", impl.TextOp)
	checkLineCode(t, "pass 0 -1000001", impl.TextOp)
	checkLineCode(t, "deliver 40", impl.TextOp)
	checkLineCode(t, "send 1 7 "+strings.Repeat("61", impl.MaxBody+1), impl.TextOp)
}

// A blank too many or too few at each place of each kind of line, and each word of it left empty.
func TestEmptyWords(t *testing.T) {
	for i, line := range plainLines() {
		words := strings.Split(line, " ")
		isPass := lineRows()[i].kind == impl.OpPass
		// One more word, which is empty: of a pass it is a number of its list, and none.
		more := map[bool]int{true: impl.TextNum, false: impl.TextMany}[isPass]
		checkLineCode(t, " "+line, impl.TextWord)
		checkLineCode(t, "  "+line, impl.TextWord)
		checkLineCode(t, line+" ", more)
		checkLineCode(t, line+"  ", more)
		for place := 1; place < len(words); place++ {
			checkLineCode(t, strings.Join(slices.Insert(slices.Clone(words), place, ""), " "), more)
			empty := slices.Clone(words)
			empty[place] = ""
			code := impl.TextNum
			if lineRows()[i].letters(len(words) - 1)[place-1] == 'x' {
				code = impl.TextHex
			}
			checkLineCode(t, strings.Join(empty, " "), code)
		}
		empty := slices.Clone(words)
		empty[0] = ""
		checkLineCode(t, strings.Join(empty, " "), impl.TextWord)
		// The word alone, and with one blank behind it.
		checkLineCode(t, words[0], impl.TextMany)
		one := map[bool]int{true: impl.TextNum, false: impl.TextMany}[isPass || len(words) == 2]
		checkLineCode(t, words[0]+" ", one)
	}
	checkLineCode(t, "", impl.TextWord)
	checkLineCode(t, " ", impl.TextWord)
	checkLineCode(t, "boot  1", impl.TextMany)
	checkLineCode(t, "boot ", impl.TextNum)
	checkLineCode(t, "send 1  61", impl.TextNum)
	checkLineCode(t, "send 1 7 ", impl.TextHex)
	checkLineCode(t, "send 1 7  ", impl.TextMany)
	checkLineCode(t, "forge 1 2 ", impl.TextHex)
	// Eight numbers and an empty word are one too many, and that comes first.
	checkLineCode(t, "pass 7 1 2 3 4 5 6 7 8 ", impl.TextMany)
	checkLineCode(t, "pass 7 1 2 3 4 5 6 7 ", impl.TextNum)
	checkLineCode(t, "pass ", impl.TextNum)
	checkLineCode(t, "pass  ", impl.TextNum)
}

// Each two neighbours of the chapter's order, both at once: the first one is told.
func TestWhichCodeOfALineComesFirst(t *testing.T) {
	long := strings.Repeat("x", impl.MaxScript)
	for line, code := range map[string]int{
		"fly " + long:                          impl.TextLong,
		"boot 1 2 " + long:                     impl.TextLong,
		"boot " + long:                         impl.TextLong,
		"send 1 2 " + long:                     impl.TextLong,
		"fly":                                  impl.TextWord,
		"fly 1 2 3 4 5 6":                      impl.TextWord,
		"fly x":                                impl.TextWord,
		"fly 1 2 6g":                           impl.TextWord,
		"fly 99":                               impl.TextWord,
		"boot x y":                             impl.TextMany,
		"boot 99 99":                           impl.TextMany,
		"send x 6g":                            impl.TextMany,
		"send 1 2 6g 3":                        impl.TextMany,
		"ask 1 1 1":                            impl.TextMany,
		"send x 1 6g":                          impl.TextNum,
		"send 1 x 6g":                          impl.TextNum,
		"forge 1 x 6g":                         impl.TextNum,
		"send 99 x 61":                         impl.TextNum,
		"fix 99 -1 x":                          impl.TextNum,
		"pass 1000001 1 1 x":                   impl.TextNum,
		"send 99 -5 6g":                        impl.TextHex,
		"forge 1 1 6":                          impl.TextHex,
		"send 1 7 " + strings.Repeat("61", 65): impl.TextHex,
		"send 1 7 " + strings.Repeat("61", 64): impl.TextOp,
		"forge 1 1 61":                         impl.TextOp,
	} {
		checkLineCode(t, line, code)
	}
}

// Each byte at each place of each kind of line, put in and put for another.
func TestEveryByteInALine(t *testing.T) {
	for _, line := range plainLines() {
		for at := range len(line) + 1 {
			for x := range 256 {
				b := string([]byte{byte(x)})
				for _, changed := range []string{line[:at] + b + line[at:], line[:at] + b + line[min(at+1, len(line)):]} {
					got := parseOp(changed)
					if !sameOpAnswer(got, wantParseOp(changed)) || got.code == impl.TextWell && opLine(got.o) != (textAnswer{changed, true}) {
						t.Fatalf("ParseOp(%q) is %v", changed, got)
					}
				}
			}
		}
	}
}

func TestScriptText(t *testing.T) {
	checkScriptText(t, nil, textAnswer{"", true})
	checkScriptText(t, []impl.Op{}, textAnswer{"", true})
	checkScriptText(t, []impl.Op{opOf(impl.OpBoot, 0)}, textAnswer{"boot 0\n", true})
	checkScriptText(t, []impl.Op{opOf(impl.OpBoot, 0), opOf(impl.OpRead, 0)}, textAnswer{"boot 0\nread 0\n", true})
	checkScriptText(t, opsDone(), textAnswer{strings.Join(plainLines(), "\n") + "\n", true})
	for name, o := range wrongOps() {
		for place := range 4 {
			list := []impl.Op{opPass(1), opOf(impl.OpBoot, 0), opSend(0, 1, "x")}
			if got := scriptText(slices.Insert(list, place, o)); got != (textAnswer{}) {
				t.Fatalf("%s at %d: %v", name, place, got)
			}
		}
	}
	// As many as there may be, also where the last one is wrong or they would be far too long.
	for more := -2; more <= 3; more++ {
		list := slices.Repeat([]impl.Op{opOf(impl.OpTick, 1)}, impl.MaxOps+more)
		want := textAnswer{}
		if more <= 0 {
			want = textAnswer{strings.Repeat("tick 1\n", impl.MaxOps+more), true}
		}
		checkScriptText(t, list, want)
		list[len(list)-1].Node = impl.MaxNodes
		checkScriptText(t, list, textAnswer{})
	}
}

// A script and its text at the limit of bytes, and past it by one: neither the last line's end nor anything else is left out of the count.
func TestScriptsAsLongAsMayBe(t *testing.T) {
	for more := -6; more <= 6; more++ {
		list := longScript(more)
		var text string
		for _, o := range list {
			text += wantOpLine(o).s + "\n"
		}
		if len(text) != impl.MaxScript+more || len(list) > impl.MaxOps {
			t.Fatal("no such script", more, len(text), len(list))
		}
		if more <= 0 {
			checkScriptText(t, list, textAnswer{text, true})
			checkParseScript(t, text, scriptAnswer{list, len(list), impl.TextWell})
		} else {
			checkScriptText(t, list, textAnswer{})
			checkParseScript(t, text, scriptAnswer{code: impl.TextLong})
		}
	}
	most := slices.Repeat([]impl.Op{opForge(1, 2, strings.Repeat("x", impl.MaxBytes))}, impl.MaxOps)
	checkScriptText(t, most, textAnswer{})
	checkScriptText(t, most[:143], textAnswer{strings.Repeat("forge 1 2 "+strings.Repeat("78", impl.MaxBytes)+"\n", 143), true})
	checkScriptText(t, most[:144], textAnswer{})
}

func TestParseScript(t *testing.T) {
	checkParseScript(t, "", scriptAnswer{})
	checkParseScript(t, "boot 0\n", scriptAnswer{[]impl.Op{opOf(impl.OpBoot, 0)}, 1, impl.TextWell})
	checkParseScript(t, "boot 0\nread 0\n", scriptAnswer{[]impl.Op{opOf(impl.OpBoot, 0), opOf(impl.OpRead, 0)}, 2, impl.TextWell})
	checkParseScript(t, strings.Join(plainLines(), "\n")+"\n", scriptAnswer{opsDone(), 14, impl.TextWell})
	checkScriptCode(t, "boot 0\nread 0\nboot", impl.TextEnd, opOf(impl.OpBoot, 0), opOf(impl.OpRead, 0))
	checkScriptCode(t, "boot 0", impl.TextEnd)
	checkScriptCode(t, "x", impl.TextEnd)
	checkScriptCode(t, " ", impl.TextEnd)
	checkScriptCode(t, "\n", impl.TextWord)
	checkScriptCode(t, "\nboot 0\n", impl.TextWord)
	checkScriptCode(t, "boot 0\n\n", impl.TextWord, opOf(impl.OpBoot, 0))
	checkScriptCode(t, "boot 0\n\nboot 1\n", impl.TextWord, opOf(impl.OpBoot, 0))
	checkScriptCode(t, "boot 0\n ", impl.TextEnd, opOf(impl.OpBoot, 0))
	checkScriptCode(t, "boot 0\r\nread 0\r\n", impl.TextNum)
	checkScriptCode(t, "boot 0\n#\n", impl.TextWord, opOf(impl.OpBoot, 0))
	// No other byte ends a line.
	for _, mark := range []string{"\r", "\x00", "\x0b", "\x0c", "\u0085", "\u2028", ";"} {
		checkScriptCode(t, "boot 0"+mark, impl.TextEnd)
		checkScriptCode(t, "boot 0"+mark+"\n", impl.TextNum)
	}
}

// A line of each code, ahead of which so many right ones stand: they are told, and its number.
func TestTheFirstWrongLineIsTold(t *testing.T) {
	wrong := map[string]int{
		"": impl.TextWord, "fly 1": impl.TextWord, "boot": impl.TextMany, "boot  1": impl.TextMany, "boot x": impl.TextNum, "boot ": impl.TextNum,
		"send 1 7 6g": impl.TextHex, "send 1 7 ": impl.TextHex, "boot 8": impl.TextOp, "ask 1 1": impl.TextOp,
	}
	ops := slices.Repeat(opsDone(), 15)[:impl.MaxOps]
	lines := slices.Repeat(plainLines(), 15)[:impl.MaxOps]
	for line, code := range wrong {
		for _, place := range []int{0, 1, 2, 13, 100, impl.MaxOps - 1} {
			ahead := strings.Join(append(slices.Clone(lines[:place]), line), "\n") + "\n"
			checkScriptCode(t, ahead, code, ops[:place]...)
			// Whatever stands behind it, also more lines than may be, or one without an end.
			for _, behind := range []string{"boot 0\n", "fly\n", "\n", "boot", strings.Repeat("tick 1\n", impl.MaxOps)} {
				checkScriptCode(t, ahead+behind, code, ops[:place]...)
			}
			// Without its end that is told, and not what is wrong with it; an empty one is none then.
			if line != "" {
				checkScriptCode(t, ahead[:len(ahead)-1], impl.TextEnd, ops[:place]...)
			} else {
				checkParseScript(t, ahead[:len(ahead)-1], scriptAnswer{ops[:place], place, impl.TextWell})
			}
		}
		// Behind as many lines as may be that is told ahead of what is wrong with it, with its end or without.
		full := strings.Join(lines, "\n") + "\n"
		checkParseScript(t, full, scriptAnswer{ops, impl.MaxOps, impl.TextWell})
		checkScriptCode(t, full+line+"\n", impl.TextLong, ops...)
		if line != "" {
			checkScriptCode(t, full+line, impl.TextLong, ops...)
		}
		checkScriptCode(t, full+"boot 0\n"+line+"\n", impl.TextLong, ops...)
	}
	full := strings.Join(lines, "\n") + "\n"
	checkScriptCode(t, full+"boot 0\n", impl.TextLong, ops...)
	checkScriptCode(t, full+"boot 0", impl.TextLong, ops...)
	checkScriptCode(t, full+"\n", impl.TextLong, ops...)
	checkScriptCode(t, full+" ", impl.TextLong, ops...)
	// One line less leaves room for it.
	less := strings.Join(lines[:impl.MaxOps-1], "\n") + "\n"
	checkScriptCode(t, less+"boot 0", impl.TextEnd, ops[:impl.MaxOps-1]...)
	checkParseScript(t, less+"boot 0\n", scriptAnswer{append(slices.Clone(ops[:impl.MaxOps-1]), opOf(impl.OpBoot, 0)), impl.MaxOps, impl.TextWell})
}

// TextLong of the whole: nothing and 0 beside it, wherever the first wrong line is.
func TestTextsThatAreTooLong(t *testing.T) {
	for _, start := range []string{"", "boot 0\n", "fly\n", "boot 0\nboot x\n", strings.Repeat("tick 1\n", impl.MaxOps+1)} {
		for _, fill := range []string{"x", " ", "\n", "\xff"} {
			at := start + strings.Repeat(fill, impl.MaxScript-len(start))
			if got := parseScript(at); !sameScript(got, wantParseScript(at)) || got.code == impl.TextLong && got.n != impl.MaxOps {
				t.Fatalf("%.20q filled up by %q: %v", start, fill, got)
			}
			checkParseScript(t, at+fill, scriptAnswer{code: impl.TextLong})
			checkParseScript(t, at+at, scriptAnswer{code: impl.TextLong})
		}
	}
	// Lines that are right, and too many bytes of them.
	line := "forge 1 2 " + strings.Repeat("78", impl.MaxBytes) + "\n"
	checkParseScript(t, strings.Repeat(line, 143)+"x", scriptAnswer{slices.Repeat([]impl.Op{opForge(1, 2, strings.Repeat("x", impl.MaxBytes))}, 143), 143, impl.TextEnd})
	checkParseScript(t, strings.Repeat(line, 144), scriptAnswer{code: impl.TextLong})
}
