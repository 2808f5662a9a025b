package impl

import (
	"slices"
	"testing"
)

// No listed function puts anything behind a round, so this is seen from inside alone.
func TestNoSlotIsWrittenBehindItsRound(t *testing.T) {
	p := Plan{Start: 10, Gap: 2, Slots: []Slot{{Owner: 0, Long: 5}, {Owner: 1, Long: 3}}}
	want := [][]Ival{{{Lo: 22, Hi: 27}, {Lo: 29, Hi: 32}}, {{Lo: 34, Hi: 39}, {Lo: 41, Hi: 44}}, {{Lo: 46, Hi: 51}, {Lo: 53, Hi: 56}}}
	for many := range len(want) + 1 {
		rounds := p.rounds(1, many)
		for n, round := range rounds {
			rounds[n] = append(round, Ival{Lo: -1, Hi: -1})
		}
		for n, round := range rounds {
			if len(rounds) != many || !slices.Equal(round[:len(round)-1], want[n]) {
				t.Error("rounds", many, n, rounds)
			}
		}
	}
}
