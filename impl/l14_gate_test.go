package impl

import (
	"errors"
	"testing"
)

// Behind a refusal of another kind, as a caller might wrap it.
type passedOn struct{ of error }

func (p passedOn) Error() string { return p.of.Error() }

func (p passedOn) Unwrap() error { return p.of }

// The listed functions tell a code or a false, so what a refusal came of is seen from inside alone.
func TestRefusalsWrapWhatTheyCameOf(t *testing.T) {
	p, still, half := Plan{Start: 10, Gap: 2, Slots: []Slot{{Owner: 0, Long: 5}, {Owner: 1, Long: 3}}}, Drift{Den: 1}, Drift{Num: 1, Den: 2}
	in, wide := Ival{Lo: 10, Hi: 11}, Ival{Lo: 10, Hi: 14}
	cases := []struct {
		g     gate
		now   Ival
		known bool
		code  int
		of    error
	}{
		{gateFor(still, 2, p, 0), Ival{Lo: 11, Hi: 10}, true, GateBad, errNoIval},
		{gateFor(Drift{}, 2, p, 0), in, true, GateBad, errNoDrift},
		{gateFor(Drift{}, 2, p, 0), in, false, GateBad, errNoDrift},
		{gateFor(still, 0, p, 0), in, true, GateBad, errNoLong},
		{gateFor(still, MaxTime+1, p, 0), in, true, GateBad, errNoLong},
		{gateFor(still, 2, Plan{}, 0), in, true, GateBad, errNoPlan},
		{gateFor(still, 2, p, MaxNodes), in, true, GateBad, errNoNode},
		{gateFor(still, 2, p, 0), in, false, GateUnsure, errUnknown},
		{gateFor(still, MaxTime, p, 0), in, true, GateUnsure, errBeyond},
		{gateFor(half, MaxTime, p, 0), in, true, GateUnsure, errBeyond},
		{gateFor(still, 2, p, 0), wide, true, GateUnsure, errOutside},
		{gateFor(still, 2, p, 1), in, true, GateUnsure, errOutside},
	}
	for _, c := range cases {
		_, _, err := c.g.ask(c.now, c.known)
		if !errors.Is(err, c.of) {
			t.Errorf("%v of %v: %v, want %v", c.g, c.now, err, c.of)
		}
		var no refusal
		if !errors.As(passedOn{of: err}, &no) || no.code != c.code || no.of != c.of {
			t.Errorf("%v of %v: the refusal is %v, want %d of %v", c.g, c.now, no, c.code, c.of)
		}
	}
	if slot, round, err := gateFor(still, 2, p, 0).ask(in, true); slot != 0 || round != 0 || err != nil {
		t.Error("what goes is refused", slot, round, err)
	}
}

// All times count, however many there are; the limit that is met exactly is no refusal.
func TestTimesTogether(t *testing.T) {
	cases := []struct {
		times []int
		sum   int
		err   error
	}{
		{nil, 0, nil},
		{[]int{7}, 7, nil},
		{[]int{-7, 3}, -4, nil},
		{[]int{1, 2, 3, 4}, 10, nil},
		{[]int{MaxTime - 1, 1}, MaxTime, nil},
		{[]int{MaxTime, 1}, 0, errBeyond},
		{[]int{-MaxTime, MaxTime}, 0, nil},
		{[]int{MaxTime, 5, -5}, MaxTime, nil},
		{[]int{MaxTime, MaxTime, MaxTime}, 0, errBeyond},
	}
	for _, c := range cases {
		if sum, err := together(c.times...); sum != c.sum || err != c.err {
			t.Errorf("%v together: %d, %v", c.times, sum, err)
		}
	}
}
