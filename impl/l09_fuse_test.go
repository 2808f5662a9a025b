package impl

import (
	"slices"
	"testing"
)

// No listed function leaves the turns ahead of the last one, so this is seen from inside alone.
func TestTurnsMayBeLeftAtAnyPlace(t *testing.T) {
	list := []Ival{{Lo: 0, Hi: 3}, {Lo: 4, Hi: 7}, {Lo: 2, Hi: 5}, {Lo: MaxTime, Hi: MaxTime}}
	want := [][2]int{{0, 1}, {2, 2}, {4, 2}, {6, 1}, {8, 0}, {MaxTime, 1}, {MaxTime + 1, 0}}
	for most := range len(want) + 1 {
		var told [][2]int
		for place, cover := range coverTurns(list) {
			if len(told) == most {
				break
			}
			told = append(told, [2]int{place, cover})
		}
		if !slices.Equal(told, want[:most]) {
			t.Error("turns", told, most)
		}
	}
	for place, cover := range coverTurns(nil) {
		t.Error("a turn of no source", place, cover)
	}
}
