package tests

import (
	"math"
	"slices"
	"strconv"

	"loop.example/g00072/impl"
)

// Chapter 10 of the document, written again over plain lists and numbers without bound; nobody is looked up by node here.

func pe(id, lo, hi, at int) impl.Peer {
	return impl.Peer{Id: id, Bound: iv(lo, hi), At: at}
}

func suspected(p impl.Peer) impl.Peer {
	p.Suspect = true
	return p
}

func peers(list ...impl.Peer) []impl.Peer { return list }

type peersAnswer struct {
	list []impl.Peer
	code int
}

type carriedAnswer struct {
	bounds []impl.Ival
	ids    []int
}

func wantPeerOk(p impl.Peer) bool {
	return wantNode(p.Id) && bigIvalOf(p.Bound).ok() && bigTime(bigOf(p.At))
}

func wantPeersOk(list []impl.Peer) bool {
	for i, p := range list {
		if !wantPeerOk(p) || i > 0 && list[i-1].Id >= p.Id {
			return false
		}
	}
	return len(list) <= impl.MaxNodes
}

func wantPut(list []impl.Peer, id int, bound impl.Ival, at int) peersAnswer {
	fresh := impl.Peer{Id: id, Bound: bound, At: at}
	if !wantPeersOk(list) || !wantPeerOk(fresh) {
		return peersAnswer{code: impl.PeerBad}
	}
	var ahead, behind []impl.Peer
	for _, p := range list {
		switch {
		case p.Id < id:
			ahead = append(ahead, p)
		case p.Id > id:
			behind = append(behind, p)
		default:
			fresh.Suspect = p.Suspect
		}
	}
	return peersAnswer{slices.Concat(ahead, peers(fresh), behind), impl.PeerDone}
}

func wantFresh(list []impl.Peer, at, life int) []int {
	if !wantPeersOk(list) || !bigTime(bigOf(at)) || !bigTime(bigOf(life)) {
		return nil
	}
	var places []int
	for i, p := range list {
		if inRange(less(bigOf(at), bigOf(p.At)), 0, life) {
			places = append(places, i)
		}
	}
	return places
}

func wantCarried(list []impl.Peer, d impl.Drift, at, life int) carriedAnswer {
	var want carriedAnswer
	for _, i := range wantFresh(list, at, life) {
		p := list[i]
		if now := wantCarryOn(loc(p.Bound.Lo, p.Bound.Hi, p.At), d, at); now.code == impl.LocWell {
			want.bounds = append(want.bounds, now.a)
			want.ids = append(want.ids, p.Id)
		}
	}
	return want
}

// What is carried is handed in, as it does not hang on a.
func wantMark(list []impl.Peer, told carriedAnswer, a impl.Ival) []impl.Peer {
	if !wantPeersOk(list) || !bigIvalOf(a).ok() {
		return nil
	}
	var marked []impl.Peer
	for _, p := range list {
		if i := slices.Index(told.ids, p.Id); i >= 0 {
			p.Suspect = !wantMeet(told.bounds[i], a).ok
		}
		marked = append(marked, p)
	}
	return marked
}

func wantPeerDrop(list []impl.Peer, id int) peersAnswer {
	if !wantPeersOk(list) {
		return peersAnswer{code: impl.PeerBad}
	}
	var left []impl.Peer
	for _, p := range list {
		if p.Id != id {
			left = append(left, p)
		}
	}
	if len(left) == len(list) {
		return peersAnswer{left, impl.PeerNone}
	}
	return peersAnswer{left, impl.PeerDone}
}

func wantSure(list []impl.Peer) []int {
	var ids []int
	for _, p := range list {
		if wantPeersOk(list) && !p.Suspect {
			ids = append(ids, p.Id)
		}
	}
	return ids
}

func wantAge(list []impl.Peer, id, at int) int {
	if !wantPeersOk(list) || !bigTime(bigOf(at)) {
		return -1
	}
	for _, p := range list {
		if p.Id == id {
			return max(at-p.At, -1)
		}
	}
	return -1
}

// So many peers of even Ids first and of odd ones behind, told in order; no two alike, every third of them suspect.
func peersWith(n int) []impl.Peer {
	var ids []int
	for i := range n {
		ids = append(ids, 2*i%impl.MaxNodes+2*i/impl.MaxNodes)
	}
	slices.Sort(ids)
	var list []impl.Peer
	for i, id := range ids {
		p := pe(id, 100+7*id, 103+9*id, 50+(i*5)%11)
		p.Suspect = i%3 == 1
		list = append(list, p)
	}
	return list
}

// One that is right, at every edge of what a peer is.
func rightPeers() []impl.Peer {
	list := peers(pe(0, 3, 7, 5), pe(impl.MaxNodes-1, 3, 7, 5), pe(4, 3, 7, 0), pe(4, 3, 7, far), pe(0, 0, 0, 0))
	for _, a := range rightSources() {
		list = append(list, pe(4, a.Lo, a.Hi, 5), suspected(pe(4, a.Lo, a.Hi, 5)))
	}
	return list
}

// One that is none: its Id, its Bound or its At one beyond an edge, and at the outermost ints.
func wrongPeers() []impl.Peer {
	var list []impl.Peer
	for _, id := range []int{-1, impl.MaxNodes, math.MinInt, math.MaxInt} {
		list = append(list, pe(id, 3, 7, 5), suspected(pe(id, 3, 7, 5)))
	}
	for _, at := range []int{-1, far + 1, math.MinInt, math.MaxInt} {
		list = append(list, pe(4, 3, 7, at), suspected(pe(4, 3, 7, at)))
	}
	for _, a := range wrongSources() {
		list = append(list, pe(4, a.Lo, a.Hi, 5))
	}
	return list
}

// Lists that are none, with the reason.
func wrongLists() map[string][]impl.Peer {
	full := peersWith(impl.MaxNodes)
	lists := map[string][]impl.Peer{
		"two alike":                   peers(pe(3, 3, 7, 5), pe(3, 3, 7, 5)),
		"two Ids alike":               peers(pe(3, 3, 7, 5), pe(3, 30, 70, 50)),
		"two Ids alike at the end":    peers(pe(0, 3, 7, 5), pe(7, 3, 7, 5), pe(7, 3, 7, 5)),
		"two that are the zero value": {{}, {}},
		"two in the wrong order":      peers(pe(4, 3, 7, 5), pe(3, 3, 7, 5)),
		"wrong order at the end":      peers(pe(0, 3, 7, 5), pe(5, 3, 7, 5), pe(4, 3, 7, 5)),
		"the first again behind":      peers(pe(1, 3, 7, 5), pe(2, 3, 7, 5), pe(1, 3, 7, 5)),
		"one more than MaxNodes":      append(slices.Clone(full), pe(impl.MaxNodes, 3, 7, 5)),
		"the last of MaxNodes twice":  append(slices.Clone(full), full[impl.MaxNodes-1]),
		"the first behind MaxNodes":   append(slices.Clone(full), full[0]),
		"far more than MaxNodes":      slices.Repeat(full, 40),
		"MaxNodes turned round":       turned(full),
		"one more, from -1 on":        append(peers(pe(-1, 3, 7, 5)), full...),
	}
	for i, p := range wrongPeers() {
		name := "a wrong peer " + strconv.Itoa(i)
		lists[name] = peers(p)
		lists[name+" behind a right one"] = peers(pe(0, 3, 7, 5), p)
		lists[name+" ahead of a right one"] = peers(p, pe(7, 3, 7, 5))
	}
	return lists
}

func turned(list []impl.Peer) []impl.Peer {
	back := slices.Clone(list)
	slices.Reverse(back)
	return back
}
