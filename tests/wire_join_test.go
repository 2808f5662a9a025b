package tests

import (
	"bytes"
	"math"
	"slices"
	"strings"
	"testing"

	"loop.example/g00072/impl"
)

func checkSplit(t *testing.T, b []byte, want splitAnswer) {
	t.Helper()
	list, at, code := impl.SplitMsgs(b)
	if !slices.Equal(list, want.list) || at != want.at || code != want.code {
		t.Fatalf("SplitMsgs(%v): got %#v, %d, %d, want %#v, %d, %d", b, list, at, code, want.list, want.at, want.code)
	}
}

func joined(t *testing.T, list []impl.Msg) []byte {
	t.Helper()
	b, ok := impl.JoinMsgs(list)
	want, right := wantJoinMsgs(list)
	if ok != right || !bytes.Equal(b, want) {
		t.Fatalf("JoinMsgs(%#v): %v, %v", list, b, ok)
	}
	return b
}

func TestJoinOfKnownMessages(t *testing.T) {
	b := joined(t, []impl.Msg{probe(0, 7, 300), frame(0, 0, ""), reply(1, 2, 128, iv(-3, 4))})
	want := []byte{6, 1, 0, 7, 172, 2, 185, 5, 3, 0, 0, 0, 90, 8, 2, 1, 2, 128, 1, 5, 8, 178}
	if !bytes.Equal(b, want) {
		t.Error("joined", b)
	}
}

// P4: joined messages are split as they were, and what is split joins to just those bytes.
func TestMessagesAreSplitAsJoined(t *testing.T) {
	all := ordinary()
	for from := range all {
		for _, many := range []int{0, 1, 2, 3, 39, 40} {
			if from+many > len(all) {
				continue
			}
			list := all[from : from+many]
			b := joined(t, list)
			checkSplit(t, b, splitAnswer{list, len(b), impl.WireWell})
		}
	}
	same := slices.Repeat([]impl.Msg{frame(2, 3, "x")}, 7)
	checkSplit(t, joined(t, same), splitAnswer{same, 7 * 7, impl.WireWell})
}

func TestJoinAndSplitOfNothing(t *testing.T) {
	for _, list := range [][]impl.Msg{nil, {}} {
		if b, ok := impl.JoinMsgs(list); !ok || len(b) != 0 {
			t.Errorf("JoinMsgs of nothing: %v, %v", b, ok)
		}
	}
	checkSplit(t, nil, splitAnswer{})
	checkSplit(t, []byte{}, splitAnswer{})
}

func TestJoinAndSplitOfMaxJoined(t *testing.T) {
	list := ordinary()[:impl.MaxJoined+1]
	b, ok := impl.JoinMsgs(list)
	if ok || len(b) != 0 {
		t.Errorf("JoinMsgs of one more: %v, %v", b, ok)
	}
	full := joined(t, list[:impl.MaxJoined])
	checkSplit(t, full, splitAnswer{list[:impl.MaxJoined], len(full), impl.WireWell})
	// Of what is left behind them nothing is looked at: neither a message, nor a length that is none, nor one that says too much.
	last := joined(t, list[impl.MaxJoined:])
	for _, more := range [][]byte{last, {0}, {128}, {128, 0}, {200}, {1, 0}, {2, 9, 9}, {255, 255, 255, 255, 255, 255, 255, 255, 255, 255, 1}} {
		checkSplit(t, append(bytes.Clone(full), more...), splitAnswer{list[:impl.MaxJoined], len(full), impl.WireLong})
	}
	// One message fewer, and the same is told of what it is.
	fewer := joined(t, list[:impl.MaxJoined-1])
	for _, more := range [][]byte{last, {0}, {128}, {128, 0}, {200}, {1, 0}, {2, 9, 9}} {
		b := append(bytes.Clone(fewer), more...)
		want := wantSplitMsgs(b)
		checkSplit(t, b, want)
		if want.code == impl.WireLong || want.code == impl.WireWell && len(want.list) != impl.MaxJoined {
			t.Errorf("%v behind one fewer: %#v", more, want)
		}
	}
}

// One message that is wrong at any place, also behind MaxJoined of them, and nothing is told.
func TestJoinWithOneWrong(t *testing.T) {
	for _, many := range []int{1, 2, 40, 41} {
		for place := range many {
			list := slices.Clone(ordinary()[:many])
			list[place].From = impl.MaxNodes
			if b, ok := impl.JoinMsgs(list); ok || len(b) != 0 {
				t.Fatalf("JoinMsgs of %d with one wrong at %d: %v, %v", many, place, b, ok)
			}
		}
	}
}

// The codes of SplitMsgs, each at the place at which the length of the wrong message begins, behind none and behind some that are right.
func TestSplitTellsTheCodeAndThePlace(t *testing.T) {
	good, _ := impl.Pack(frame(1, 2, "body"))
	turned := bytes.Clone(good)
	turned[3] ^= 4
	with := func(long []byte, b []byte) []byte { return append(bytes.Clone(long), b...) }
	whole := func(b []byte) []byte { return with(form(len(b)), b) }
	cases := []struct {
		wrong []byte
		code  int
	}{
		{[]byte{128}, impl.WireNum},
		{[]byte{255, 255}, impl.WireNum},
		{with([]byte{137, 0}, good), impl.WireNum},
		{with([]byte{128, 0}, nil), impl.WireNum},
		{bytes.Repeat([]byte{128}, 12), impl.WireNum},
		{append(bytes.Repeat([]byte{255}, 9), 1), impl.WireNum},
		{[]byte{1}, impl.WireShort},
		{with(form(len(good)), good[:len(good)-1]), impl.WireShort},
		{with(form(len(good)+1), good), impl.WireShort},
		{with(form(len(good)+1), turned), impl.WireShort},
		// A length may be any number that has a form: there is no other limit to it than the bytes that are left.
		{with(form(4*far), good), impl.WireShort},
		{with(form(4*far+1), good), impl.WireShort},
		{with(form(math.MaxInt), good), impl.WireShort},
		{[]byte{0}, impl.WireShort},
		{with([]byte{0}, whole(good)), impl.WireShort},
		{[]byte{1, 90}, impl.WireShort},
		{with([]byte{1, 3}, whole(good)), impl.WireShort},
		{whole(turned), impl.WireCheck},
		{with(form(len(good)-1), good), impl.WireCheck},
		{whole(sealed([]byte{4, 0, 0})), impl.WireKind},
		{whole(sealed([]byte{1, 0, 1})), impl.WireNum},
		{whole(sealed([]byte{1, 0, 1, 5, 5})), impl.WireLong},
		{whole(sealed([]byte{1, 1, 1, 5})), impl.WireField},
		{whole(sealed(form(2, 0, 1, 5, 2*far+1, 0))), impl.WireField},
	}
	for _, c := range cases {
		for _, ahead := range [][]impl.Msg{nil, {frame(1, 2, "body")}, {probe(0, 1, 5), reply(1, 0, 5, iv(3, 9)), frame(7, 15, "")}} {
			b := joined(t, ahead)
			at := len(b)
			b = append(b, c.wrong...)
			checkSplit(t, b, splitAnswer{ahead, at, c.code})
			if want := wantSplitMsgs(b); want.code != c.code || want.at != at {
				t.Errorf("the model of %v: %#v", b, want)
			}
		}
	}
}

// Cut at every place: the messages that are whole, and the place behind them.
func TestSplitOfBytesCutOff(t *testing.T) {
	list := []impl.Msg{probe(0, 1, 5), frame(7, 15, strings.Repeat("\x80", impl.MaxBody)), reply(1, 0, impl.MaxNonce, iv(-far, far)), frame(0, 0, "")}
	b := joined(t, list)
	ends := []int{0}
	for _, m := range list {
		packed, _ := impl.Pack(m)
		ends = append(ends, ends[len(ends)-1]+1+len(packed))
	}
	for cut := range len(b) + 1 {
		whole := 0
		for whole+1 < len(ends) && ends[whole+1] <= cut {
			whole++
		}
		code := impl.WireShort
		if ends[whole] == cut {
			code = impl.WireWell
		}
		checkSplit(t, b[:cut], splitAnswer{list[:whole], ends[whole], code})
	}
}

// No bit of joined bytes can be turned without being told, and all that stands ahead of it is read as it was.
func TestSplitWithOneBitTurned(t *testing.T) {
	list := []impl.Msg{probe(0, 1, 5), reply(1, 0, 500, iv(-70, 9000)), frame(7, 15, "abc"), frame(0, 0, "")}
	b := joined(t, list)
	for bit := range 8 * len(b) {
		turned := bytes.Clone(b)
		turned[bit/8] ^= 1 << (bit % 8)
		checkSplit(t, turned, wantSplitMsgs(turned))
		got, at, code := impl.SplitMsgs(turned)
		if code == impl.WireWell || at > bit/8 || !slices.Equal(got, list[:len(got)]) {
			t.Fatalf("with the bit %d turned: %#v, %d, %d", bit, got, at, code)
		}
	}
}

// What is split of any bytes joins to just the bytes ahead of the place (P4).
func TestSplitJoinsToTheBytesAhead(t *testing.T) {
	pieces := [][]byte{
		joined(t, []impl.Msg{probe(0, 1, 5)}), joined(t, []impl.Msg{frame(0, 0, "")}), joined(t, []impl.Msg{reply(2, 3, 4, iv(1, 1))}),
		{0}, {1}, {128}, {128, 0}, {2, 3, 90}, {5, 3, 0, 0, 0, 91}, {4, 1, 0, 1, 5}, {6, 1, 0, 1, 5, 5, 5},
	}
	for code := range 11 * 11 * 11 {
		b := slices.Concat(pieces[code%11], pieces[code/11%11], pieces[code/121])
		checkSplit(t, b, wantSplitMsgs(b))
		list, at, how := impl.SplitMsgs(b)
		if again := joined(t, list); !bytes.Equal(again, b[:at]) || (how == impl.WireWell) != (at == len(b)) {
			t.Fatalf("%v: %#v, %d, %d joins to %v", b, list, at, how, again)
		}
	}
}

// P23: bytes and lists that are handed in are not written into, nor is the room behind them.
func TestWireWritesIntoNothing(t *testing.T) {
	room := append(joined(t, []impl.Msg{probe(0, 1, 5), reply(1, 0, 5, iv(3, 9)), frame(7, 15, "abc")}), 128, 7, 255, 0)
	kept := bytes.Clone(room)
	for from := range room {
		for to := from; to <= len(room); to++ {
			b := room[from:to]
			impl.GetNum(b, 0)
			impl.Check8(b)
			impl.Unpack(b)
			impl.SplitMsgs(b)
			if !bytes.Equal(room, kept) {
				t.Fatalf("written into %v from %d to %d", kept, from, to)
			}
		}
	}
	list := append(ordinary()[:10:10], impl.Msg{}, probe(3, 3, 3), frame(1, 1, "x"))
	before := slices.Clone(list)
	for n := range len(list) + 1 {
		impl.JoinMsgs(list[:n])
		if !slices.Equal(list, before) {
			t.Fatalf("written into a list of %d or behind it", n)
		}
	}
}

// P23: what is answered is new memory: it stays when an argument or another answer changes.
func TestWireAnswersShareNothing(t *testing.T) {
	m := frame(7, 15, "abc")
	b, _ := impl.Pack(m)
	read, _ := impl.Unpack(b)
	all := joined(t, []impl.Msg{m, m})
	list, _, _ := impl.SplitMsgs(all)
	clear(b)
	clear(all)
	if read != m || !slices.Equal(list, []impl.Msg{m, m}) {
		t.Error("a message changed with its bytes", read, list)
	}
	if again, _ := impl.Pack(m); !bytes.Equal(again, wantPack(m)) {
		t.Error("packed again", again)
	}
	if again := joined(t, []impl.Msg{m, m}); len(again) != len(all) {
		t.Error("joined again", again)
	}
	for _, x := range []int{0, 5, 300, math.MaxInt} {
		clear(impl.PutNum(x))
		if again := impl.PutNum(x); !bytes.Equal(again, form(x)) {
			t.Error("written again", again)
		}
	}
}
