package tests

import (
	"bytes"
	"math"
	"strings"
	"testing"

	"loop.example/g00072/impl"
)

func TestMsgOkAtItsLimits(t *testing.T) {
	said := iv(-3, 4)
	cases := []struct {
		m    impl.Msg
		want bool
	}{
		{probe(0, 7, 0), true},
		{probe(7, 0, impl.MaxNonce), true},
		{probe(-1, 7, 5), false},
		{probe(8, 7, 5), false},
		{probe(7, -1, 5), false},
		{probe(7, 8, 5), false},
		{probe(0, 0, 5), false},
		{probe(7, 7, 5), false},
		{probe(0, 1, -1), false},
		{probe(0, 1, impl.MaxNonce+1), false},
		{reply(0, 7, 0, said), true},
		{reply(7, 0, impl.MaxNonce, said), true},
		{reply(-1, 7, 5, said), false},
		{reply(8, 7, 5, said), false},
		{reply(7, -1, 5, said), false},
		{reply(7, 8, 5, said), false},
		{reply(3, 3, 5, said), false},
		{reply(0, 1, -1, said), false},
		{reply(0, 1, impl.MaxNonce+1, said), false},
		{reply(0, 1, 5, iv(-far, far)), true},
		{reply(0, 1, 5, iv(-far, -far)), true},
		{reply(0, 1, 5, iv(far, far)), true},
		{reply(0, 1, 5, iv(0, 0)), true},
		{reply(0, 1, 5, iv(-far-1, far)), false},
		{reply(0, 1, 5, iv(-far, far+1)), false},
		{reply(0, 1, 5, iv(1, 0)), false},
		{frame(0, 0, ""), true},
		{frame(7, 15, strings.Repeat("x", impl.MaxBody)), true},
		{frame(7, 15, strings.Repeat("\xff", impl.MaxBody)), true},
		{frame(7, 15, strings.Repeat("x", impl.MaxBody+1)), false},
		// The bytes of a body count, not its letters.
		{frame(7, 15, strings.Repeat("\u00e4", impl.MaxBody/2)), true},
		{frame(7, 15, strings.Repeat("\u00e4", impl.MaxBody/2)+"x"), false},
		{frame(-1, 0, ""), false},
		{frame(8, 0, ""), false},
		{frame(0, -1, ""), false},
		{frame(0, 16, ""), false},
		{impl.Msg{}, false},
		{probe(math.MinInt, math.MaxInt, math.MaxInt), false},
		{frame(math.MaxInt, math.MinInt, ""), false},
	}
	for _, c := range cases {
		if got := impl.MsgOk(c.m); got != c.want || wantMsgOk(c.m) != c.want {
			t.Errorf("MsgOk(%#v) is %v", c.m, got)
		}
	}
}

func TestMsgOkOfOtherKinds(t *testing.T) {
	for _, m := range ordinary() {
		for _, kind := range []int{math.MinInt, -1, 0, 4, 255, 257, math.MaxInt} {
			m.Kind = kind
			refused(t, m)
		}
	}
}

// A field that the kind does not have is refused as soon as it is not zero.
func TestMsgOkWithFieldsOfOtherKinds(t *testing.T) {
	for _, m := range []impl.Msg{probe(0, 1, 0), probe(6, 2, 9)} {
		for _, said := range []impl.Ival{iv(0, 1), iv(-1, 0), iv(1, 1), iv(1, 0)} {
			with := m
			with.Said = said
			refused(t, with)
		}
	}
	for _, m := range []impl.Msg{probe(6, 2, 9), reply(6, 2, 9, iv(1, 2)), reply(6, 2, 0, iv(0, 0))} {
		for _, slot := range []int{-1, 1, 15, 16} {
			with := m
			with.Slot = slot
			refused(t, with)
		}
		for _, body := range []string{"x", "\x00"} {
			with := m
			with.Body = body
			refused(t, with)
		}
	}
	for _, m := range []impl.Msg{frame(0, 0, ""), frame(3, 4, "body")} {
		for _, x := range []int{-1, 1, 7} {
			to, nonce, low, high := m, m, m, m
			to.To, nonce.Nonce, low.Said.Lo, high.Said.Hi = x, x, x, x
			refused(t, to)
			refused(t, nonce)
			refused(t, low)
			refused(t, high)
		}
	}
}

// What is no message is none for all of the functions that take one.
func refused(t *testing.T, m impl.Msg) {
	t.Helper()
	if impl.MsgOk(m) || wantMsgOk(m) {
		t.Errorf("%#v is MsgOk", m)
	}
	if b, ok := impl.Pack(m); ok || len(b) != 0 {
		t.Errorf("Pack(%#v): %v, %v", m, b, ok)
	}
	for _, list := range [][]impl.Msg{{m}, {m, frame(1, 2, "x")}, {frame(1, 2, "x"), m}, {frame(1, 2, "x"), m, frame(1, 2, "x")}} {
		if b, ok := impl.JoinMsgs(list); ok || len(b) != 0 {
			t.Errorf("JoinMsgs(%#v): %v, %v", list, b, ok)
		}
	}
}

// Each length of a form: its first number and its last one.
func numberEdges() []int {
	numbers := []int{0, 1, 2, 127}
	for bits := 7; bits < 63; bits += 7 {
		numbers = append(numbers, 1<<bits-1, 1<<bits, 1<<bits+1)
	}
	return append(numbers, 300, far, 2*far, 4*far, 4*far+1, math.MaxInt-1, math.MaxInt)
}

func TestPutNumForms(t *testing.T) {
	cases := []struct {
		x    int
		form []byte
	}{
		{0, []byte{0}},
		{1, []byte{1}},
		{127, []byte{127}},
		{128, []byte{128, 1}},
		{129, []byte{129, 1}},
		{255, []byte{255, 1}},
		{256, []byte{128, 2}},
		{16383, []byte{255, 127}},
		{16384, []byte{128, 128, 1}},
		{1<<56 - 1, []byte{255, 255, 255, 255, 255, 255, 255, 127}},
		{1 << 56, []byte{128, 128, 128, 128, 128, 128, 128, 128, 1}},
		{math.MaxInt, []byte{255, 255, 255, 255, 255, 255, 255, 255, 127}},
		{-1, nil},
		{-128, nil},
		{math.MinInt, nil},
	}
	for _, c := range cases {
		if got := impl.PutNum(c.x); !bytes.Equal(got, c.form) {
			t.Errorf("PutNum(%d) is %v", c.x, got)
		}
	}
}

func TestNumbersAreReadAsWritten(t *testing.T) {
	numbers := numberEdges()
	for x := range 40000 {
		numbers = append(numbers, x)
	}
	for _, x := range numbers {
		b := impl.PutNum(x)
		if !bytes.Equal(b, wantPutNum(bigOf(x))) {
			t.Fatalf("PutNum(%d) is %v", x, b)
		}
		checkForm(t, b, 0, formAnswer{x, len(b), true})
		checkForm(t, append([]byte{128, 128}, b...), 2, formAnswer{x, len(b) + 2, true})
		// What stands behind a form is none of it, and a form that is cut off is none.
		checkForm(t, append(b, 0, 255), 0, formAnswer{x, len(b), true})
		for cut := range b {
			checkForm(t, b[:cut], 0, formAnswer{})
		}
	}
}

func checkForm(t *testing.T, b []byte, at int, want formAnswer) {
	t.Helper()
	x, next, ok := impl.GetNum(b, at)
	if got := (formAnswer{x, next, ok}); got != want {
		t.Fatalf("GetNum(%v, %d): got %v, want %v", b, at, got, want)
	}
}

func TestGetNumAtItsLimits(t *testing.T) {
	full := bytes.Repeat([]byte{255}, 8)
	low := bytes.Repeat([]byte{128}, 8)
	with := func(b []byte, more ...byte) []byte { return append(bytes.Clone(b), more...) }
	cases := []struct {
		b    []byte
		at   int
		want formAnswer
	}{
		{nil, 0, formAnswer{}},
		{nil, -1, formAnswer{}},
		{[]byte{5}, 0, formAnswer{5, 1, true}},
		{[]byte{5}, -1, formAnswer{}},
		{[]byte{5}, 1, formAnswer{}},
		{[]byte{5}, 2, formAnswer{}},
		{[]byte{5}, math.MinInt, formAnswer{}},
		{[]byte{5}, math.MaxInt, formAnswer{}},
		{[]byte{0}, 0, formAnswer{0, 1, true}},
		{[]byte{0, 0}, 1, formAnswer{0, 2, true}},
		{[]byte{128, 0}, 0, formAnswer{}},
		{[]byte{128, 0}, 1, formAnswer{0, 2, true}},
		{[]byte{129, 0}, 0, formAnswer{}},
		{[]byte{129, 128, 0}, 0, formAnswer{}},
		{[]byte{128, 128, 1}, 0, formAnswer{16384, 3, true}},
		{[]byte{128}, 0, formAnswer{}},
		{[]byte{255, 255}, 0, formAnswer{}},
		{[]byte{7, 172, 2, 9}, 1, formAnswer{300, 3, true}},
		// Nine bytes, the last of them at its greatest, its least, and one that is not needed.
		{with(full, 127), 0, formAnswer{math.MaxInt, 9, true}},
		{with(low, 1), 0, formAnswer{1 << 56, 9, true}},
		{with(low, 0), 0, formAnswer{}},
		{with(full, 0), 0, formAnswer{}},
		{with(full[1:], 127), 0, formAnswer{1<<56 - 1, 8, true}},
		{full, 0, formAnswer{}},
		// Ten bytes and more, also where the last ones add nothing, or come round.
		{with(full, 255, 1), 0, formAnswer{}},
		{with(full, 255, 0), 0, formAnswer{}},
		{with(low, 128, 1), 0, formAnswer{}},
		{with(low, 128, 0), 0, formAnswer{}},
		{with(low, 128, 2), 0, formAnswer{}},
		{with(low, 129, 128, 1), 0, formAnswer{}},
		{with(low, 128, 1), 1, formAnswer{1 << 56, 10, true}},
		{with(full, 255), 0, formAnswer{}},
	}
	for _, c := range cases {
		checkForm(t, c.b, c.at, c.want)
		if wantGetNum(c.b, c.at) != c.want {
			t.Errorf("the model at %v, %d", c.b, c.at)
		}
	}
}

func TestGetNumAgainstTheModel(t *testing.T) {
	for _, b := range rowsOf([]byte{0, 1, 127, 128, 129, 255}, 4) {
		for at := -1; at < len(b)+2; at++ {
			checkForm(t, b, at, wantGetNum(b, at))
		}
	}
	// Rows in which most bytes go on, with another one at each place.
	for long := range 13 {
		for _, fill := range []byte{128, 255, 170} {
			for place := range long {
				for _, other := range []byte{0, 1, 127, 128} {
					b := bytes.Repeat([]byte{fill}, long)
					b[place] = other
					for at := -1; at < long+2; at++ {
						checkForm(t, b, at, wantGetNum(b, at))
					}
				}
			}
		}
	}
}

func TestFoldAndUnfoldAtTheirLimits(t *testing.T) {
	folds := []struct{ x, fold int }{
		{0, 0}, {-1, 1}, {1, 2}, {-2, 3}, {2, 4}, {-3, 5}, {4, 8},
		{far, 2 * far}, {-far, 2*far - 1}, {far - 1, 2*far - 2}, {1 - far, 2*far - 3},
	}
	for _, c := range folds {
		if got := impl.Fold(c.x); got != c.fold {
			t.Errorf("Fold(%d) is %d", c.x, got)
		}
		if got := impl.Unfold(c.fold); got != c.x {
			t.Errorf("Unfold(%d) is %d", c.fold, got)
		}
	}
	for _, x := range []int{far + 1, -far - 1, 2 * far, math.MinInt, math.MinInt + 1, math.MaxInt, math.MinInt / 2, math.MaxInt/2 + 1, 1 << 62} {
		if got := impl.Fold(x); got != 0 {
			t.Errorf("Fold(%d) is %d", x, got)
		}
	}
	for _, x := range []int{-1, -2, -far, 2*far + 1, 2*far + 2, 4 * far, math.MinInt, math.MaxInt, math.MaxInt - 1} {
		if got := impl.Unfold(x); got != 0 {
			t.Errorf("Unfold(%d) is %d", x, got)
		}
	}
}

func TestFoldAgainstTheModel(t *testing.T) {
	for _, around := range []int{0, far, -far, 2 * far, -2 * far, 4 * far} {
		for x := around - 300; x < around+300; x++ {
			if got := impl.Fold(x); got != wantFold(x) {
				t.Fatalf("Fold(%d) is %d", x, got)
			}
			if got := impl.Unfold(x); got != wantUnfold(x) {
				t.Fatalf("Unfold(%d) is %d", x, got)
			}
			if inRange(bigOf(x), -far, far) && impl.Unfold(impl.Fold(x)) != x {
				t.Fatalf("%d is not unfolded as it was", x)
			}
			if inRange(bigOf(x), 0, 2*far) && impl.Fold(impl.Unfold(x)) != x {
				t.Fatalf("%d is not folded as it was", x)
			}
		}
	}
}

func TestCheck8OfKnownBytes(t *testing.T) {
	var each []byte
	for x := range 256 {
		each = append(each, byte(x))
	}
	cases := []struct {
		b    []byte
		want int
	}{
		{nil, 90},
		{[]byte{}, 90},
		{[]byte{0}, 129},
		{[]byte{1}, 134},
		{[]byte{90}, 0},
		{[]byte{255}, 114},
		{[]byte{1, 1, 2, 3}, 62},
		{[]byte("123456789"), 88},
		{each, 154},
		{make([]byte, 1000), 45},
	}
	for _, c := range cases {
		if got := impl.Check8(c.b); got != c.want || wantCheck(c.b) != c.want {
			t.Errorf("Check8(%v) is %d", c.b, got)
		}
	}
}

func TestCheck8AgainstTheModel(t *testing.T) {
	for x := range 1 << 16 {
		b := []byte{byte(x), byte(x >> 8)}
		for n := range 3 {
			if got := impl.Check8(b[:n]); got != wantCheck(b[:n]) {
				t.Fatalf("Check8(%v) is %d", b[:n], got)
			}
		}
	}
}

func TestPackOfKnownMessages(t *testing.T) {
	cases := []struct {
		m impl.Msg
		b []byte
	}{
		{probe(0, 7, 300), []byte{1, 0, 7, 172, 2, 185}},
		{reply(1, 2, 128, iv(-3, 4)), []byte{2, 1, 2, 128, 1, 5, 8, 178}},
		{reply(7, 0, impl.MaxNonce, iv(-far, far)), []byte{2, 7, 0, 231, 201, 215, 47, 255, 191, 168, 202, 154, 58, 128, 192, 168, 202, 154, 58, 161}},
		{frame(6, 15, "abc"), []byte{3, 6, 15, 3, 97, 98, 99, 0}},
		{frame(0, 0, ""), []byte{3, 0, 0, 0, 90}},
	}
	for _, c := range cases {
		if b, ok := impl.Pack(c.m); !ok || !bytes.Equal(b, c.b) {
			t.Errorf("Pack(%#v): %v, %v", c.m, b, ok)
		}
		checkRead(t, c.b, readAnswer{c.m, impl.WireWell})
	}
}

func checkRead(t *testing.T, b []byte, want readAnswer) {
	t.Helper()
	m, code := impl.Unpack(b)
	if got := (readAnswer{m, code}); got != want {
		t.Fatalf("Unpack(%v): got %#v, want %#v", b, got, want)
	}
}

// Messages of each kind, ordinary ones and such as meet their limits.
func ordinary() []impl.Msg {
	all := []impl.Msg{}
	for _, nonce := range []int{0, 1, 127, 128, 16383, 16384, 5000999, impl.MaxNonce} {
		for _, two := range [][2]int{{0, 1}, {1, 0}, {0, 7}, {7, 0}, {3, 5}} {
			all = append(all, probe(two[0], two[1], nonce))
			for _, said := range []impl.Ival{iv(0, 0), iv(-1, 0), iv(-64, 64), iv(63, 8192), iv(-far, far), iv(far, far), iv(-far, -far)} {
				all = append(all, reply(two[0], two[1], nonce, said))
			}
		}
	}
	for _, from := range []int{0, 3, 7} {
		for _, slot := range []int{0, 1, 15} {
			for _, body := range []string{"", "\x00", "hi", "\u00e4\u4e16", "\xff\x80\x00", strings.Repeat("z", impl.MaxBody-1), strings.Repeat("\xff", impl.MaxBody)} {
				all = append(all, frame(from, slot, body))
			}
		}
	}
	return all
}

// P4: a message is read from its bytes as it was.
func TestMessagesAreReadAsPacked(t *testing.T) {
	all := ordinary()
	for from := range impl.MaxNodes {
		for to := range impl.MaxNodes {
			if from != to {
				all = append(all, probe(from, to, 77), reply(from, to, 78, iv(-9, 1000)))
			}
		}
		for slot := range 16 {
			for long := range impl.MaxBody + 1 {
				all = append(all, frame(from, slot, "abcdefghijklmnopqrstuvwxyz"[:long]))
			}
		}
	}
	seen := map[string]impl.Msg{}
	for _, m := range all {
		b, ok := impl.Pack(m)
		if !ok || !bytes.Equal(b, wantPack(m)) {
			t.Fatalf("Pack(%#v): %v, %v", m, b, ok)
		}
		checkRead(t, b, readAnswer{m, impl.WireWell})
		if other, told := seen[string(b)]; told && other != m {
			t.Fatalf("%#v and %#v pack to the same", m, other)
		}
		seen[string(b)] = m
	}
}

// P4: a packed message with one bit turned is refused, by the check, which is looked at ahead of all else.
func TestOneBitTurnedIsRefused(t *testing.T) {
	for _, m := range ordinary() {
		b, _ := impl.Pack(m)
		for bit := range 8 * len(b) {
			turned := bytes.Clone(b)
			turned[bit/8] ^= 1 << (bit % 8)
			checkRead(t, turned, readAnswer{code: impl.WireCheck})
		}
	}
}

// A message cut off at every place, with the check that it is left with and with one that is right.
func TestMessagesCutOff(t *testing.T) {
	for _, m := range ordinary() {
		b, _ := impl.Pack(m)
		for cut := range b {
			checkRead(t, b[:cut], wantUnpack(b[:cut]))
			checkRead(t, sealed(b[:cut]), wantUnpack(sealed(b[:cut])))
		}
	}
}

func body(head []byte, long int) []byte {
	return append(bytes.Clone(head), bytes.Repeat([]byte{'x'}, long)...)
}

func TestUnpackTellsTheFirstCodeThatApplies(t *testing.T) {
	probeOf := func(numbers ...int) []byte { return append([]byte{1}, form(numbers...)...) }
	replyOf := func(numbers ...int) []byte { return append([]byte{2}, form(numbers...)...) }
	frameOf := func(numbers ...int) []byte { return append([]byte{3}, form(numbers...)...) }
	cases := []struct {
		ahead []byte // the bytes ahead of a check that is right
		code  int
	}{
		{nil, impl.WireShort},
		{[]byte{0}, impl.WireKind},
		{[]byte{4}, impl.WireKind},
		{[]byte{255}, impl.WireKind},
		{[]byte{129, 0, 1, 5}, impl.WireKind},
		{[]byte{0, 128}, impl.WireKind},
		{[]byte{4, 9, 9, 9, 9, 9, 9}, impl.WireKind},
		// The fields in their order: each of them missing, cut off, or not in the shortest form.
		{[]byte{1}, impl.WireNum},
		{[]byte{1, 0}, impl.WireNum},
		{[]byte{1, 0, 1}, impl.WireNum},
		{[]byte{1, 0, 1, 128}, impl.WireNum},
		{[]byte{1, 128, 0, 1, 5}, impl.WireNum},
		{[]byte{1, 0, 129, 0, 5}, impl.WireNum},
		{[]byte{1, 0, 1, 133, 0}, impl.WireNum},
		{[]byte{2, 0, 1, 5}, impl.WireNum},
		{[]byte{2, 0, 1, 5, 3}, impl.WireNum},
		{[]byte{2, 0, 1, 5, 131, 0, 8}, impl.WireNum},
		{[]byte{2, 0, 1, 5, 3, 136, 0}, impl.WireNum},
		{[]byte{3}, impl.WireNum},
		{[]byte{3, 0}, impl.WireNum},
		{[]byte{3, 0, 0}, impl.WireNum},
		{[]byte{3, 0, 0, 128, 0}, impl.WireNum},
		// A number of 4 MaxTime is one, though no field has it; one above is none.
		{probeOf(4*far, 1, 5), impl.WireField},
		{probeOf(4*far+1, 1, 5), impl.WireNum},
		{probeOf(0, 4*far, 5), impl.WireField},
		{probeOf(0, 4*far+1, 5), impl.WireNum},
		{probeOf(0, 1, 4*far), impl.WireField},
		{probeOf(0, 1, 4*far+1), impl.WireNum},
		{probeOf(0, 1, math.MaxInt), impl.WireNum},
		{replyOf(0, 1, 5, 4*far, 8), impl.WireField},
		{replyOf(0, 1, 5, 4*far+1, 8), impl.WireNum},
		{replyOf(0, 1, 5, 3, 4*far), impl.WireField},
		{replyOf(0, 1, 5, 3, 4*far+1), impl.WireNum},
		{frameOf(4*far, 0, 0), impl.WireField},
		{frameOf(4*far+1, 0, 0), impl.WireNum},
		{frameOf(0, 4*far, 0), impl.WireField},
		{frameOf(0, 4*far+1, 0), impl.WireNum},
		{frameOf(0, 0, 4*far), impl.WireNum},
		{frameOf(0, 0, 4*far+1), impl.WireNum},
		{frameOf(0, 0, math.MaxInt), impl.WireNum},
		// A body whose length says more than is left; the check is not one of its bytes.
		{frameOf(0, 0, 1), impl.WireNum},
		{body(frameOf(0, 0, 3), 2), impl.WireNum},
		{body(frameOf(0, 0, 3), 3), impl.WireWell},
		{body(frameOf(0, 0, 3), 4), impl.WireLong},
		{body(frameOf(0, 0, 24), 23), impl.WireNum},
		{body(frameOf(0, 0, 24), 24), impl.WireWell},
		{body(frameOf(0, 0, 24), 25), impl.WireLong},
		{body(frameOf(0, 0, 25), 24), impl.WireNum},
		{body(frameOf(0, 0, 25), 25), impl.WireField},
		{body(frameOf(0, 0, 25), 26), impl.WireLong},
		{body(frameOf(0, 0, 1000), 1000), impl.WireField},
		// A field that is wrong is told behind a number that is none, and behind bytes that are left.
		{probeOf(8, 1, 5), impl.WireField},
		{probeOf(8, 1), impl.WireNum},
		{probeOf(8, 1, 5, 0), impl.WireLong},
		{probeOf(7, 8, 5), impl.WireField},
		{probeOf(7, 8), impl.WireNum},
		{probeOf(3, 3, 5), impl.WireField},
		{probeOf(3, 3, 5, 5), impl.WireLong},
		{probeOf(3, 3, 4*far+1), impl.WireNum},
		{probeOf(0, 1, impl.MaxNonce), impl.WireWell},
		{probeOf(0, 1, impl.MaxNonce+1), impl.WireField},
		{probeOf(0, 1, impl.MaxNonce+1, 128), impl.WireLong},
		{replyOf(3, 3, 5, 3, 8), impl.WireField},
		{replyOf(3, 3, 5, 3), impl.WireNum},
		{replyOf(0, 1, 5, 3, 8, 0), impl.WireLong},
		{frameOf(8, 0, 0), impl.WireField},
		{frameOf(8, 0, 1), impl.WireNum},
		{frameOf(8, 0, 0, 0), impl.WireLong},
		{frameOf(0, 15, 0), impl.WireWell},
		{frameOf(0, 16, 0), impl.WireField},
		{frameOf(0, 16, 0, 7), impl.WireLong},
		{frameOf(0, 16, 2, 7), impl.WireNum},
		// The ends of Said: met at both limits, the Fold of none, and turned round.
		{replyOf(0, 1, 5, 2*far-1, 2*far), impl.WireWell},
		{replyOf(0, 1, 5, 2*far, 2*far), impl.WireWell},
		{replyOf(0, 1, 5, 2*far-1, 2*far-1), impl.WireWell},
		{replyOf(0, 1, 5, 2*far, 2*far-1), impl.WireField},
		{replyOf(0, 1, 5, 2*far+1, 2*far), impl.WireField},
		{replyOf(0, 1, 5, 2*far+1, 0), impl.WireField},
		{replyOf(0, 1, 5, 2*far+2, 0), impl.WireField},
		{replyOf(0, 1, 5, 0, 2*far+1), impl.WireField},
		{replyOf(0, 1, 5, 0, 2*far+2), impl.WireField},
		{replyOf(0, 1, 5, 2*far+1, 2*far+2), impl.WireField},
		{replyOf(0, 1, 5, 2*far+1), impl.WireNum},
		{replyOf(0, 1, 5, 2*far+1, 4*far+1), impl.WireNum},
		{replyOf(0, 1, 5, 2*far+1, 0, 0), impl.WireLong},
		{replyOf(0, 1, 5, 2, 0), impl.WireField},
		{replyOf(0, 1, 5, 0, 1), impl.WireField},
		{replyOf(0, 1, 5, 1, 0), impl.WireWell},
	}
	for _, c := range cases {
		b := sealed(c.ahead)
		want := wantUnpack(b)
		if want.code != c.code {
			t.Errorf("the model tells %d of %v, not %d", want.code, c.ahead, c.code)
		}
		checkRead(t, b, want)
		// A check that is wrong is told ahead of all of these but WireShort.
		if len(b) > 1 {
			b[len(b)-1] ^= 16
			checkRead(t, b, readAnswer{code: impl.WireCheck})
		}
	}
}

func TestUnpackOfFewBytes(t *testing.T) {
	checkRead(t, nil, readAnswer{code: impl.WireShort})
	for first := range 256 {
		checkRead(t, []byte{byte(first)}, readAnswer{code: impl.WireShort})
		for second := range 256 {
			b := []byte{byte(first), byte(second)}
			checkRead(t, b, wantUnpack(b))
		}
	}
}

// Every row of a few bytes, with its check and without one: the code is the one that the document names first, and what is read packs to just those bytes (P4).
func TestUnpackAgainstTheModel(t *testing.T) {
	rows := rowsOf([]byte{0, 1, 2, 3, 7, 8, 15, 16, 128, 129}, 5)
	for _, kind := range []byte{1, 2, 3} {
		for _, row := range rowsOf([]byte{0, 1, 2, 5, 128}, 6) {
			rows = append(rows, append([]byte{kind}, row...))
		}
	}
	codes := [7]int{}
	for _, row := range rows {
		checkRead(t, row, wantUnpack(row))
		b := sealed(row)
		m, code := impl.Unpack(b)
		if got := (readAnswer{m, code}); got != wantUnpack(b) {
			t.Fatalf("Unpack(%v) is %#v", b, got)
		}
		codes[code]++
		if code != impl.WireWell {
			continue
		}
		if again, ok := impl.Pack(m); !ok || !bytes.Equal(again, b) {
			t.Fatalf("%#v is read from %v and packs to %v, %v", m, b, again, ok)
		}
	}
	for _, code := range []int{impl.WireWell, impl.WireShort, impl.WireKind, impl.WireNum, impl.WireField, impl.WireLong} {
		if codes[code] == 0 {
			t.Errorf("the code %d was not asked for", code)
		}
	}
}

// Fields at and around every limit, with each other and with bytes that are left.
func TestUnpackOfNumbersAtTheirLimits(t *testing.T) {
	nodes := []int{0, 1, 7, 8, 4 * far, 4*far + 1}
	nonces := []int{0, impl.MaxNonce, impl.MaxNonce + 1, 4 * far, 4*far + 1, math.MaxInt}
	ends := []int{0, 1, 2*far - 1, 2 * far, 2*far + 1, 2*far + 2, 4 * far, 4*far + 1, math.MaxInt}
	for _, from := range nodes {
		for _, to := range nodes {
			for _, nonce := range nonces {
				checkEnding(t, append([]byte{1}, form(from, to, nonce)...))
				for _, low := range ends {
					for _, high := range ends {
						checkEnding(t, append([]byte{2}, form(from, to, nonce, low, high)...))
					}
				}
			}
		}
		for _, slot := range []int{0, 15, 16, 4 * far, 4*far + 1} {
			for _, long := range []int{0, 1, 23, 24, 25, 26, 4 * far, 4*far + 1, math.MaxInt} {
				for _, there := range []int{0, 1, 23, 24, 25, 26} {
					checkEnding(t, body(append([]byte{3}, form(from, slot, long)...), there))
				}
			}
		}
	}
}

func checkEnding(t *testing.T, ahead []byte) {
	t.Helper()
	for _, more := range [][]byte{nil, {0}, {128}} {
		b := sealed(append(bytes.Clone(ahead), more...))
		checkRead(t, b, wantUnpack(b))
	}
}

// Unpack and SplitMsgs of what is no message at all: long rows of one byte, of any bytes, with a check that is right.
func TestWireAnswersAtAnyBytes(t *testing.T) {
	for part := range 256 {
		for _, long := range []int{1, 2, 9, 10, 11, 30, 127, 128, 300} {
			b := bytes.Repeat([]byte{byte(part)}, long)
			checkRead(t, b, wantUnpack(b))
			checkRead(t, sealed(b), wantUnpack(sealed(b)))
			checkSplit(t, b, wantSplitMsgs(b))
		}
	}
	state := uint32(1)
	for range 20000 {
		b := make([]byte, state%23)
		for i := range b {
			state = state*1664525 + 1013904223
			b[i] = byte(state >> 24)
		}
		state = state*1664525 + 1013904223
		checkRead(t, sealed(b), wantUnpack(sealed(b)))
		checkSplit(t, b, wantSplitMsgs(b))
	}
}
