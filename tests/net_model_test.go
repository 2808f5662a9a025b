package tests

import (
	"math"
	"slices"
	"strconv"

	"loop.example/g00072/impl"
)

// Chapter 5 of the document, written again over plain lists, to hold the program's answers against.

func fl(id, from, to int, bytes string, at int) impl.Flight {
	return impl.Flight{Id: id, From: from, To: to, Bytes: bytes, At: at}
}

func netOf(next int, list ...impl.Flight) impl.Net { return impl.Net{Next: next, List: list} }

type netAnswer struct {
	net  impl.Net
	code int
}

type takeAnswer struct {
	net  impl.Net
	f    impl.Flight
	code int
}

func sameNet(a, b impl.Net) bool { return a.Next == b.Next && slices.Equal(a.List, b.List) }

func wantNode(n int) bool { return inRange(bigOf(n), 0, impl.MaxNodes-1) }

func wantSendable(f impl.Flight) bool {
	return wantNode(f.From) && wantNode(f.To) && len(f.Bytes) <= impl.MaxBytes && inRange(bigOf(f.At), 0, far)
}

func wantNetOk(n impl.Net) bool {
	if !inRange(bigOf(n.Next), 0, impl.MaxFlightId) || len(n.List) > impl.MaxFlights {
		return false
	}
	for i, f := range n.List {
		if !wantSendable(f) || !inRange(bigOf(f.Id), 0, n.Next-1) {
			return false
		}
		for _, other := range n.List[:i] {
			if other.Id == f.Id {
				return false
			}
		}
	}
	return true
}

func wantPlace(n impl.Net, i int) bool {
	for place := range n.List {
		if place == i {
			return true
		}
	}
	return false
}

func wantFull(n impl.Net) bool {
	return len(n.List) >= impl.MaxFlights || n.Next >= impl.MaxFlightId
}

// The net with one more flight at its end, as the chapter says of NetSend and NetDouble alike.
func wantMore(n impl.Net, f impl.Flight) netAnswer {
	if wantFull(n) {
		return netAnswer{n, impl.NetFull}
	}
	f.Id = n.Next
	return netAnswer{netOf(n.Next+1, append(slices.Clone(n.List), f)...), impl.NetDone}
}

func wantSend(n impl.Net, from, to int, bytes string, at int) netAnswer {
	f := fl(0, from, to, bytes, at)
	if !wantNetOk(n) || !wantSendable(f) {
		return netAnswer{code: impl.NetBad}
	}
	return wantMore(n, f)
}

func wantTake(n impl.Net, i int) takeAnswer {
	if !wantNetOk(n) {
		return takeAnswer{code: impl.NetBad}
	}
	if !wantPlace(n, i) {
		return takeAnswer{net: n, code: impl.NetNone}
	}
	return takeAnswer{netOf(n.Next, slices.Delete(slices.Clone(n.List), i, i+1)...), n.List[i], impl.NetDone}
}

func wantDrop(n impl.Net, i int) netAnswer {
	took := wantTake(n, i)
	return netAnswer{took.net, took.code}
}

func wantDouble(n impl.Net, i int) netAnswer {
	if !wantNetOk(n) {
		return netAnswer{code: impl.NetBad}
	}
	if !wantPlace(n, i) {
		return netAnswer{n, impl.NetNone}
	}
	return wantMore(n, n.List[i])
}

func wantMove(n impl.Net, i, to int) netAnswer {
	if !wantNetOk(n) {
		return netAnswer{code: impl.NetBad}
	}
	if !wantPlace(n, i) || !wantPlace(n, to) {
		return netAnswer{n, impl.NetNone}
	}
	without := slices.Delete(slices.Clone(n.List), i, i+1)
	return netAnswer{netOf(n.Next, slices.Insert(without, to, n.List[i])...), impl.NetDone}
}

func wantFor(n impl.Net, to int) []int {
	var places []int
	for i, f := range n.List {
		if wantNetOk(n) && f.To == to {
			places = append(places, i)
		}
	}
	return places
}

func wantOldest(n impl.Net) int {
	if !wantNetOk(n) {
		return -1
	}
	for i, f := range n.List {
		ahead := func(other impl.Flight) bool { return other.At <= f.At }
		behind := func(other impl.Flight) bool { return other.At < f.At }
		if !slices.ContainsFunc(n.List[:i], ahead) && !slices.ContainsFunc(n.List[i:], behind) {
			return i
		}
	}
	return -1
}

func wantCut(n impl.Net, node int) impl.Net {
	if !wantNetOk(n) {
		return impl.Net{}
	}
	of := func(f impl.Flight) bool { return f.From == node || f.To == node }
	return netOf(n.Next, slices.DeleteFunc(slices.Clone(n.List), of)...)
}

// A net of so many flights, no two with all fields alike but the Id, in no order of their Ids.
func netWith(flights int) impl.Net {
	n := netOf(3 * flights)
	for i := range flights {
		id := (i*17 + 5) % max(flights, 1) * 3
		if flights%17 == 0 {
			id = 3 * i
		}
		n.List = append(n.List, fl(id, i%8, (i*3+1)%8, "flight "+strconv.Itoa(i), 1000-7*(i%11)))
	}
	return n
}

// Places in a net and around it.
func placesOf(n impl.Net) []int {
	places := []int{math.MinInt, math.MinInt + 1, -2, -1, math.MaxInt - 1, math.MaxInt}
	for i := range len(n.List) + 2 {
		places = append(places, i)
	}
	return places
}
