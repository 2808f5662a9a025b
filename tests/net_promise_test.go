package tests

import (
	"slices"
	"strconv"
	"testing"

	"loop.example/g00072/impl"
)

// P5: what is moved from any place to any other, and back, stands where it stood; between the two the others keep their order.
func TestMovedBackStandsWhereItStood(t *testing.T) {
	for flights := range impl.MaxFlights + 1 {
		n := netWith(flights)
		for i := range flights {
			for to := range flights {
				moved, code := impl.NetMove(n, i, to)
				if code != impl.NetDone || len(moved.List) != flights || moved.List[to] != n.List[i] {
					t.Fatalf("%d flights, %d to %d: %#v, %d", flights, i, to, moved, code)
				}
				others := slices.Delete(slices.Clone(n.List), i, i+1)
				if kept := slices.Delete(slices.Clone(moved.List), to, to+1); !slices.Equal(kept, others) {
					t.Fatalf("%d flights, %d to %d: the others are %#v", flights, i, to, kept)
				}
				back, code := impl.NetMove(moved, to, i)
				checkNet(t, "back", back, code, netAnswer{n, impl.NetDone})
			}
		}
	}
}

func TestDroppingADoubleLeavesTheNetButForNext(t *testing.T) {
	for flights := range impl.MaxFlights {
		n := netWith(flights)
		for i := range flights {
			two, code := impl.NetDouble(n, i)
			if code != impl.NetDone || len(two.List) != flights+1 {
				t.Fatalf("%d flights, %d doubled: %#v, %d", flights, i, two, code)
			}
			left, code := impl.NetDrop(two, flights)
			checkNet(t, "NetDrop", left, code, netAnswer{netOf(n.Next+1, n.List...), impl.NetDone})
		}
	}
}

// What is sent may be taken again, and nothing else changed.
func TestSentIsTaken(t *testing.T) {
	for flights := range impl.MaxFlights {
		n := netWith(flights)
		more, code := impl.NetSend(n, 3, 4, "sent", 77)
		if code != impl.NetDone {
			t.Fatal(flights, code)
		}
		checkTake(t, more, flights, takeAnswer{netOf(n.Next+1, n.List...), fl(n.Next, 3, 4, "sent", 77), impl.NetDone})
	}
}

// A flight without its Id: what was really sent.
func contents(f impl.Flight) impl.Flight {
	f.Id = 0
	return f
}

// A long walk of sends, takes, drops, doubles, moves and cuts, the next of which hangs on a number that is turned each time.
type walk struct {
	t     *testing.T
	net   impl.Net
	sent  []impl.Flight
	state uint32
	done  [7]int
}

func (w *walk) number(below int) int {
	w.state = w.state*1664525 + 1013904223
	return int(w.state>>8) % below
}

// A place that may be one beyond the last or the first.
func (w *walk) place() int { return w.number(len(w.net.List)+2) - 1 }

func (w *walk) step() {
	before := w.net
	kept := netOf(before.Next, slices.Clone(before.List)...)
	code, kind := 0, w.number(14)
	switch {
	case kind < 5:
		f := fl(0, w.number(9), w.number(9), "mail "+strconv.Itoa(w.number(1000)), w.number(50)-1)
		w.net, code = impl.NetSend(before, f.From, f.To, f.Bytes, f.At)
		kind = 0
		if code == impl.NetDone {
			w.sent = append(w.sent, f)
		}
	case kind < 8:
		w.net, code = impl.NetDouble(before, w.place())
		kind = 1
	case kind < 10:
		w.net, code = impl.NetMove(before, w.place(), w.place())
		kind = 2
	case kind < 12:
		w.net, code = impl.NetDrop(before, w.place())
		kind = 3
	case kind == 12:
		var f impl.Flight
		w.net, f, code = impl.NetTake(before, w.place())
		kind = 4
		if code == impl.NetDone && !slices.Contains(w.sent, contents(f)) {
			w.t.Fatalf("%#v was taken and never sent", f)
		}
	default:
		kind = 5
		if w.number(20) == 0 {
			w.net = impl.NetCut(before, w.number(8))
		}
	}
	if !sameNet(before, kept) {
		w.t.Fatalf("a net was changed: %#v", before)
	}
	w.look(kept, code)
	if code == impl.NetDone {
		w.done[kind]++
	} else if code == impl.NetFull {
		w.done[6]++
	}
}

// P5, at each step: all that is under way was sent, what was under way has the Id that it had, and only what is new has a new one.
func (w *walk) look(before impl.Net, code int) {
	if code == impl.NetBad {
		if !sameNet(w.net, impl.Net{}) {
			w.t.Fatalf("beside NetBad: %#v", w.net)
		}
		w.net = before
	}
	if code != impl.NetDone && !sameNet(w.net, before) {
		w.t.Fatalf("beside %d: %#v is not %#v", code, w.net, before)
	}
	if !impl.NetOk(w.net) || w.net.Next < before.Next || w.net.Next > before.Next+1 {
		w.t.Fatalf("%#v came of %#v", w.net, before)
	}
	for _, f := range w.net.List {
		if !slices.Contains(w.sent, contents(f)) {
			w.t.Fatalf("%#v is under way and was never sent", f)
		}
		if !slices.Contains(before.List, f) && f.Id != before.Next {
			w.t.Fatalf("%#v came into %#v", f, before)
		}
	}
}

func TestNothingIsUnderWayThatWasNotSent(t *testing.T) {
	done := [7]int{}
	for start := range 30 {
		w := walk{t: t, state: uint32(start)}
		for range 400 {
			w.step()
		}
		for i, n := range w.done {
			done[i] += n
		}
	}
	if slices.Contains(done[:], 0) {
		t.Error("not all was asked for", done)
	}
}

// Each function that takes a net, at arguments with which it is done and with which it is refused; what it answers as a net.
func netCalls() map[string]func(n impl.Net) impl.Net {
	first := func(n impl.Net, _ int) impl.Net { return n }
	return map[string]func(n impl.Net) impl.Net{
		"NetOk":      func(n impl.Net) impl.Net { impl.NetOk(n); return impl.Net{} },
		"NetSend":    func(n impl.Net) impl.Net { return first(impl.NetSend(n, 1, 2, "new", 3)) },
		"send bad":   func(n impl.Net) impl.Net { return first(impl.NetSend(n, 1, 8, "new", 3)) },
		"NetTake":    func(n impl.Net) impl.Net { left, _, _ := impl.NetTake(n, 1); return left },
		"take none":  func(n impl.Net) impl.Net { left, _, _ := impl.NetTake(n, len(n.List)); return left },
		"NetDrop":    func(n impl.Net) impl.Net { return first(impl.NetDrop(n, 0)) },
		"drop last":  func(n impl.Net) impl.Net { return first(impl.NetDrop(n, len(n.List)-1)) },
		"drop none":  func(n impl.Net) impl.Net { return first(impl.NetDrop(n, -1)) },
		"NetDouble":  func(n impl.Net) impl.Net { return first(impl.NetDouble(n, 1)) },
		"no double":  func(n impl.Net) impl.Net { return first(impl.NetDouble(n, len(n.List))) },
		"NetMove":    func(n impl.Net) impl.Net { return first(impl.NetMove(n, 0, len(n.List)-1)) },
		"move ahead": func(n impl.Net) impl.Net { return first(impl.NetMove(n, len(n.List)-1, 0)) },
		"move still": func(n impl.Net) impl.Net { return first(impl.NetMove(n, 1, 1)) },
		"move none":  func(n impl.Net) impl.Net { return first(impl.NetMove(n, 1, len(n.List))) },
		"NetFor":     func(n impl.Net) impl.Net { impl.NetFor(n, 1); return impl.Net{} },
		"NetOldest":  func(n impl.Net) impl.Net { impl.NetOldest(n); return impl.Net{} },
		"NetCut":     func(n impl.Net) impl.Net { return impl.NetCut(n, 1) },
		"cut first":  func(n impl.Net) impl.Net { return impl.NetCut(n, n.List[0].From) },
		"cut none":   func(n impl.Net) impl.Net { return impl.NetCut(n, 8) },
	}
}

// P23: a net is not written into, nor the spare room behind its list; what is answered shares no memory with it, nor with another answer.
func TestNetAnswersShareNothing(t *testing.T) {
	for name, call := range netCalls() {
		for _, flights := range []int{2, 3, 12, impl.MaxFlights - 1, impl.MaxFlights} {
			room := append(netWith(flights).List, fl(-7, -7, -7, "spare", -7), fl(-8, -8, -8, "room", -8))
			kept := slices.Clone(room)
			for _, next := range []int{3 * flights, impl.MaxFlightId, -1} {
				n := netOf(next, room[:flights]...)
				answer, other := call(n), call(n)
				before := slices.Clone(other.List)
				// All that an answer can be written into, its spare room too.
				for i := range answer.List[:cap(answer.List)] {
					answer.List[:cap(answer.List)][i] = fl(-9, -9, -9, "written", -9)
				}
				if !slices.Equal(room, kept) {
					t.Fatalf("%s of %d flights: the net was written into: %#v", name, flights, room)
				}
				if !slices.Equal(other.List, before) {
					t.Fatalf("%s of %d flights: an answer was written into by another: %#v", name, flights, other)
				}
			}
		}
	}
}

func TestForSharesNothing(t *testing.T) {
	n := netWith(impl.MaxFlights)
	first, second := impl.NetFor(n, 1), impl.NetFor(n, 1)
	kept := slices.Clone(second)
	for i := range first[:cap(first)] {
		first[:cap(first)][i] = -9
	}
	if len(second) < 2 || !slices.Equal(second, kept) || !slices.Equal(impl.NetFor(n, 1), kept) {
		t.Error("places were written into", second)
	}
}
