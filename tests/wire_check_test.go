package tests

import (
	"bytes"
	"testing"

	"loop.example/g00072/impl"
)

// Unpack takes just one last byte for the check of those ahead: the one that Check8 says.
func onlyItsCheck(t *testing.T, ahead []byte) {
	t.Helper()
	said := impl.Check8(ahead)
	if said != wantCheck(ahead) {
		t.Fatalf("Check8(%v) is %d", ahead, said)
	}
	for last := range 256 {
		_, code := impl.Unpack(append(bytes.Clone(ahead), byte(last)))
		if (code == impl.WireCheck) != (last != said) {
			t.Fatalf("%v with the check %d: the code is %d, where Check8 says %d", ahead, last, code, said)
		}
	}
}

// One byte behind 90 comes to each number that eight turns may begin with.
func TestReadersAndCheck8SayTheSame(t *testing.T) {
	for x := range 256 {
		onlyItsCheck(t, []byte{byte(x)})
		onlyItsCheck(t, []byte{byte(x), byte(255 - x)})
		onlyItsCheck(t, bytes.Repeat([]byte{byte(x)}, 3+x))
	}
}

// With no byte ahead of the check there is none to be read, whatever Check8 says of no bytes.
func TestCheckOfNoBytesIsNoMessage(t *testing.T) {
	none := byte(impl.Check8(nil))
	checkRead(t, []byte{none}, readAnswer{code: impl.WireShort})
	list, at, code := impl.SplitMsgs([]byte{1, none})
	if len(list) != 0 || at != 0 || code != impl.WireShort {
		t.Error(list, at, code)
	}
}

func TestPackersAndCheck8SayTheSame(t *testing.T) {
	for _, m := range ordinary() {
		b, ok := impl.Pack(m)
		if !ok || len(b) < 2 || int(b[len(b)-1]) != impl.Check8(b[:len(b)-1]) {
			t.Errorf("Pack(%#v): %v, %v", m, b, ok)
		}
		all, ok := impl.JoinMsgs([]impl.Msg{m})
		if !ok || !bytes.Equal(all, append(impl.PutNum(len(b)), b...)) {
			t.Errorf("JoinMsgs of %#v: %v, %v", m, all, ok)
		}
		list, at, code := impl.SplitMsgs(all)
		if len(list) != 1 || list[0] != m || at != len(all) || code != impl.WireWell {
			t.Errorf("SplitMsgs(%v): %#v, %d, %d", all, list, at, code)
		}
	}
}
