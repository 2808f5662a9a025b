package tests

import (
	"math"
	"slices"

	"loop.example/g00072/impl"
)

// What the document says of the gate, written again over numbers without bound.

type gateAnswer struct{ slot, round, code int }

// What is asked of the gate, so that it can be told and changed as a whole.
type question struct {
	now   impl.Ival
	known bool
	d     impl.Drift
	long  int
	p     impl.Plan
	owner int
}

func (q question) ask() gateAnswer {
	i, k, code := impl.GateAsk(q.now, q.known, q.d, q.long, q.p, q.owner)
	return gateAnswer{i, k, code}
}

// How long a frame may last at most, in true time; no frame is shorter than 1.
func wantLasts(d impl.Drift, long int) numAnswer {
	if long < 1 {
		return numAnswer{}
	}
	return wantTime(d, long, 1)
}

// With how long the frame may last told, for many intervals are asked about one frame.
func wantSpanBy(now impl.Ival, lasts numAnswer) pairAnswer {
	x := bigIvalOf(now)
	return answerOf(bigIval{x.lo, plus(x.hi, bigOf(lasts.n))}, lasts.ok && x.ok())
}

func wantGateSpan(now impl.Ival, d impl.Drift, long int) pairAnswer {
	return wantSpanBy(now, wantLasts(d, long))
}

func wantGateBad(q question) bool {
	return q.known && !bigIvalOf(q.now).ok() || !wantDriftOk(q.d) || !inRange(bigOf(q.long), 1, impl.MaxTime) || !wantPlanOk(q.p) || !wantNode(q.owner)
}

// With the occurrences near its Lo told as well, for many questions are asked about one time.
func wantGateAskBy(q question, lasts numAnswer, near []occurrence) gateAnswer {
	if wantGateBad(q) {
		return gateAnswer{code: impl.GateBad}
	}
	unsure := gateAnswer{code: impl.GateUnsure}
	if !q.known {
		return unsure
	}
	span := wantSpanBy(q.now, lasts)
	if !span.ok {
		return unsure
	}
	in := wantInSlot(q.p, near, q.owner, span.a.Lo, span.a.Hi)
	if !in.ok {
		return unsure
	}
	return gateAnswer{in.slot, in.n, impl.GateGo}
}

func wantGateAsk(q question) gateAnswer {
	return wantGateAskBy(q, wantLasts(q.d, q.long), occurrencesNear(q.p, q.now.Lo))
}

func wantBusyStill(d impl.Drift, sent, long, count int) bool {
	lasts := wantLasts(d, long)
	if !lasts.ok || !bigTime(bigOf(sent)) || !bigTime(bigOf(count)) || count < sent {
		return true
	}
	return wantTime(d, count-sent, -1).n < lasts.n
}

// Whose interval is carried on, and what else is asked of the gate at each count.
type waiting struct {
	l           impl.Local
	d           impl.Drift
	long        int
	p           impl.Plan
	owner       int
	count, most int
}

func (w waiting) wait() numAnswer {
	n, ok := impl.GateWait(w.l, w.d, w.long, w.p, w.owner, w.count, w.most)
	return numAnswer{n, ok}
}

func wantGateWait(w waiting) numAnswer {
	if !bigTime(bigOf(w.count)) || !inRange(bigOf(w.most), 0, impl.MaxWait) {
		return numAnswer{}
	}
	lasts := wantLasts(w.d, w.long)
	for n := 0; n <= w.most; n++ {
		now := wantCarryOn(w.l, w.d, w.count+n)
		q := question{now.a, true, w.d, w.long, w.p, w.owner}
		if now.code == impl.LocWell && wantGateAskBy(q, lasts, occurrencesNear(w.p, now.a.Lo)).code == impl.GateGo {
			return numAnswer{n, true}
		}
	}
	return numAnswer{}
}

func wantGateBudget(p impl.Plan, owner int, d impl.Drift, long int) numAnswer {
	lasts := wantLasts(d, long)
	var longs []int
	for _, s := range p.Slots {
		if s.Owner == owner {
			longs = append(longs, s.Long)
		}
	}
	if !wantPlanOk(p) || len(longs) == 0 || !lasts.ok || slices.Max(longs) < lasts.n {
		return numAnswer{}
	}
	return numAnswer{slices.Max(longs) - lasts.n, true}
}

func wrongLongs() []int { return []int{math.MinInt, -far, -1, 0, far + 1, 2 * far, math.MaxInt} }

func noNodes() []int {
	return []int{math.MinInt, -impl.MaxNodes, -1, impl.MaxNodes, impl.MaxNodes + 1, math.MaxInt}
}

// Local intervals that are none, in each of their ways.
func wrongLocals() []impl.Local {
	all := []impl.Local{loc(15, 16, -1), loc(15, 16, far+1), loc(15, 16, math.MinInt), loc(15, 16, math.MaxInt), {At: 7}, {Bound: iv(15, 16)}, {Bound: iv(15, 16), At: 7}}
	for _, a := range wrongSources() {
		all = append(all, impl.Local{Known: true, Bound: a, At: 7})
	}
	return all
}
