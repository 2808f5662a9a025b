package impl

import (
	"slices"
	"testing"
)

// That the line of a bus is closed behind its last frame is seen from inside alone.
func TestLineIsClosedBehindItsLastFrame(t *testing.T) {
	var list []Frame
	for n := range MaxFrames + 1 {
		line := lineOf(list)
		var came []Frame
		for p := range line {
			if p.place != len(came) {
				t.Fatal("a frame came out of its turn", p)
			}
			came = append(came, p.frame)
		}
		if p, open := <-line; open || p != (passing{}) || !slices.Equal(came, list) {
			t.Fatal("of", n, "frames came", came, "and then", p, open)
		}
		list = append(list, Frame{From: n % MaxNodes, Start: n, End: n + 2})
	}
}
