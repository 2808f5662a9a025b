package impl

import (
	"bytes"
	"testing"
)

// The table and the function beside it are seen from inside alone, so this test lies here, and not in the folder tests.

// The eight turns written again, so that a fault of theirs can't hide in the table and the function alike.
func turnsOf(n int) int {
	for range 8 {
		twice := n << 1
		if twice > 255 {
			twice = (twice % 256) ^ (4 + 2 + 1)
		}
		n = twice
	}
	return n
}

func TestTableSaysWhatTheTurnsSay(t *testing.T) {
	Check8(nil)
	if len(checkTable) != 256 {
		t.Fatal("the table has not a number for each byte", len(checkTable))
	}
	for first := range 256 {
		want := turnsOf(first)
		if checkTable[first] != want || eightTurns(first) != want {
			t.Errorf("%d: the table says %d, the function %d, not %d", first, checkTable[first], eightTurns(first), want)
		}
	}
}

func sameCheck(t *testing.T, b []byte) {
	t.Helper()
	if byTable, byTurns := Check8(b), checkOf(b); byTable != byTurns {
		t.Fatalf("%v: %d by the table, %d by the turns", b, byTable, byTurns)
	}
}

func TestChecksOfBothAreTheSame(t *testing.T) {
	sameCheck(t, nil)
	sameCheck(t, []byte{})
	if Check8(nil) != 90 || checkOf(nil) != 90 {
		t.Errorf("of no bytes: %d by the table, %d by the turns", Check8(nil), checkOf(nil))
	}
	for x := range 1 << 16 {
		sameCheck(t, []byte{byte(x)})
		sameCheck(t, []byte{byte(x), byte(x >> 8)})
	}
	var row []byte
	for x := range 600 {
		sameCheck(t, row)
		sameCheck(t, bytes.Repeat([]byte{byte(x)}, x))
		row = append(row, byte(x*x+x>>3))
	}
}
