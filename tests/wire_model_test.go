package tests

import (
	"bytes"
	"math/big"

	"loop.example/g00072/impl"
)

// What the document says of messages, written again: numbers over numbers without bound, the check bit by bit, bytes read by holding them against what would be written.

func probe(from, to, nonce int) impl.Msg {
	return impl.Msg{Kind: impl.KindProbe, From: from, To: to, Nonce: nonce}
}

func reply(from, to, nonce int, said impl.Ival) impl.Msg {
	return impl.Msg{Kind: impl.KindReply, From: from, To: to, Nonce: nonce, Said: said}
}

func frame(from, slot int, body string) impl.Msg {
	return impl.Msg{Kind: impl.KindFrame, From: from, Slot: slot, Body: body}
}

func wantMsgOk(m impl.Msg) bool {
	within := func(x, low, high int) bool { return low <= x && x <= high }
	if !within(m.Kind, 1, 3) || !within(m.From, 0, 7) {
		return false
	}
	if m.Kind == impl.KindFrame {
		return m.To == 0 && m.Nonce == 0 && m.Said.Lo == 0 && m.Said.Hi == 0 && within(m.Slot, 0, 15) && within(len(m.Body), 0, 24)
	}
	if !within(m.To, 0, 7) || m.To == m.From || !within(m.Nonce, 0, 100000999) || m.Slot != 0 || m.Body != "" {
		return false
	}
	if m.Kind == impl.KindProbe {
		return m.Said.Lo == 0 && m.Said.Hi == 0
	}
	return bigIvalOf(m.Said).ok()
}

// The digits of x to the base 128, the lowest first.
func wantPutNum(x *big.Int) []byte {
	if x.Sign() < 0 {
		return nil
	}
	base, form := bigOf(128), []byte{}
	for {
		rest, digit := new(big.Int).DivMod(x, base, new(big.Int))
		if rest.Sign() == 0 {
			return append(form, byte(digit.Int64()))
		}
		form = append(form, byte(digit.Int64()+128))
		x = rest
	}
}

type formAnswer struct {
	x    int
	next int
	ok   bool
}

// Of the pieces that begin at a place, the one that is the form of the number that its digits say, if it has at most 9 bytes.
func wantGetNum(b []byte, at int) formAnswer {
	if at < 0 || at >= len(b) {
		return formAnswer{}
	}
	for long := 1; long <= 9 && at+long <= len(b); long++ {
		piece, x := b[at:at+long], bigOf(0)
		for i := long - 1; i >= 0; i-- {
			x = plus(times(x, bigOf(128)), bigOf(int(piece[i])%128))
		}
		if bytes.Equal(wantPutNum(x), piece) {
			return formAnswer{int(x.Int64()), at + long, true}
		}
	}
	return formAnswer{}
}

func wantFold(x int) int {
	n := bigOf(x)
	if !inRange(n, -impl.MaxTime, impl.MaxTime) {
		return 0
	}
	if n.Sign() < 0 {
		return int(less(times(n, bigOf(-2)), bigOf(1)).Int64())
	}
	return int(times(n, bigOf(2)).Int64())
}

// The one of the two numbers around a half whose Fold x is, if it is that of one.
func wantUnfold(x int) int {
	for _, n := range []int{x / 2, -(x / 2) - 1} {
		if wantFold(n) == x {
			return n
		}
	}
	return 0
}

func wantCheck(b []byte) int {
	bits := [8]bool{false, true, false, true, true, false, true, false} // 90, the lowest bit first
	for _, part := range b {
		for i := range 8 {
			bits[i] = bits[i] != (part>>i&1 == 1)
		}
		for range 8 {
			top := bits[7]
			bits = [8]bool{false, bits[0], bits[1], bits[2], bits[3], bits[4], bits[5], bits[6]}
			for i := range 3 { // the bits of 7
				bits[i] = bits[i] != top
			}
		}
	}
	n := 0
	for i, set := range bits {
		if set {
			n += 1 << i
		}
	}
	return n
}

func sealed(b []byte) []byte { return append(bytes.Clone(b), byte(wantCheck(b))) }

func form(numbers ...int) []byte {
	var b []byte
	for _, x := range numbers {
		b = append(b, wantPutNum(bigOf(x))...)
	}
	return b
}

func wantPack(m impl.Msg) []byte {
	if !wantMsgOk(m) {
		return nil
	}
	b := append([]byte{byte(m.Kind)}, form(m.From)...)
	switch m.Kind {
	case impl.KindProbe:
		b = append(b, form(m.To, m.Nonce)...)
	case impl.KindReply:
		b = append(b, form(m.To, m.Nonce, wantFold(m.Said.Lo), wantFold(m.Said.Hi))...)
	case impl.KindFrame:
		b = append(append(b, form(m.Slot, len(m.Body))...), m.Body...)
	}
	return sealed(b)
}

type readAnswer struct {
	m    impl.Msg
	code int
}

func wantUnpack(b []byte) readAnswer {
	if len(b) < 2 {
		return readAnswer{code: impl.WireShort}
	}
	ahead := b[:len(b)-1]
	if wantCheck(ahead) != int(b[len(b)-1]) {
		return readAnswer{code: impl.WireCheck}
	}
	fields := map[byte]int{impl.KindProbe: 3, impl.KindReply: 5, impl.KindFrame: 3}[ahead[0]]
	if fields == 0 {
		return readAnswer{code: impl.WireKind}
	}
	m, at := impl.Msg{Kind: int(ahead[0])}, 1
	var said []int
	for i := range fields {
		n := wantGetNum(ahead, at)
		if !n.ok || n.x > 4*impl.MaxTime {
			return readAnswer{code: impl.WireNum}
		}
		said, at = append(said, n.x), n.next
		if m.Kind == impl.KindFrame && i == 2 {
			if n.x > len(ahead)-at {
				return readAnswer{code: impl.WireNum}
			}
			m.Body, at = string(ahead[at:at+n.x]), at+n.x
		}
	}
	if at != len(ahead) {
		return readAnswer{code: impl.WireLong}
	}
	return wantFields(m, said)
}

func wantFields(m impl.Msg, said []int) readAnswer {
	m.From = said[0]
	if m.Kind == impl.KindFrame {
		m.Slot = said[1]
	} else {
		m.To, m.Nonce = said[1], said[2]
	}
	if m.Kind == impl.KindReply {
		if said[3] > 2*impl.MaxTime || said[4] > 2*impl.MaxTime {
			return readAnswer{code: impl.WireField}
		}
		m.Said = iv(wantUnfold(said[3]), wantUnfold(said[4]))
	}
	if !wantMsgOk(m) {
		return readAnswer{code: impl.WireField}
	}
	return readAnswer{m, impl.WireWell}
}

func wantJoinMsgs(list []impl.Msg) ([]byte, bool) {
	if len(list) > impl.MaxJoined {
		return nil, false
	}
	var all []byte
	for _, m := range list {
		if !wantMsgOk(m) {
			return nil, false
		}
		b := wantPack(m)
		all = append(append(all, form(len(b))...), b...)
	}
	return all, true
}

type splitAnswer struct {
	list []impl.Msg
	at   int
	code int
}

func wantSplitMsgs(b []byte) splitAnswer {
	var all splitAnswer
	for all.at < len(b) {
		long := wantGetNum(b, all.at)
		switch {
		case len(all.list) == impl.MaxJoined:
			all.code = impl.WireLong
		case !long.ok:
			all.code = impl.WireNum
		case long.x > len(b)-long.next:
			all.code = impl.WireShort
		default:
			one := wantUnpack(b[long.next : long.next+long.x])
			all.code = one.code
			if one.code == impl.WireWell {
				all.list, all.at = append(all.list, one.m), long.next+long.x
			}
		}
		if all.code != impl.WireWell {
			return all
		}
	}
	return all
}

// Every row of these bytes that has at most this many.
func rowsOf(alphabet []byte, most int) [][]byte {
	rows := [][]byte{nil}
	for from := 0; most > 0; most-- {
		to := len(rows)
		for _, row := range rows[from:to] {
			for _, part := range alphabet {
				rows = append(rows, append(row[:len(row):len(row)], part))
			}
		}
		from = to
	}
	return rows
}
