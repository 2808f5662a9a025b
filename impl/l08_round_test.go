package impl

import "testing"

// No listed function carries on anything but a trip, so this is seen from inside alone.
func TestOnlyATripIsCarriedOn(t *testing.T) {
	d, said := Drift{Num: 1, Den: 4}, Ival{Lo: 10, Hi: 12}
	trip := Trip{From: 1, Said: said, Sent: 4, Got: 10}
	if a, code := (carried{from: trip, at: 20}).bounds(d); code != RndWell || a != (Ival{Lo: 18, Hi: 33}) {
		t.Error("a trip:", a, code)
	}
	for _, other := range []bounding{saying{said: said, took: 6}, carried{from: trip, at: 20}} {
		for _, at := range []int{0, 20, MaxTime} {
			if a, code := (carried{from: other, at: at}).bounds(d); code != RndBad || a != (Ival{}) {
				t.Error("no trip:", other, at, a, code)
			}
		}
	}
}
