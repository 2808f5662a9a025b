package tests

import (
	"math"
	"slices"

	"loop.example/g00072/impl"
)

// What the document says of the judge, written again: a time up by its number, which is how many boots and crashes of the node were done ahead, and nonces two by two.

func tells(list ...impl.Told) []impl.Told { return list }

func tellOf(kind, node, code int) impl.Told { return impl.Told{Kind: kind, Node: node, Code: code} }

func tellBoot(node int) impl.Told { return tellOf(impl.OpBoot, node, impl.NodeDone) }

func tellCrash(node int) impl.Told { return tellOf(impl.OpCrash, node, impl.NodeDone) }

// A tell of a read by that look.
func tellRead(node int, l impl.Look, r impl.Reading) impl.Told {
	code := map[int]int{impl.ReadWell: impl.NodeDone, impl.ReadUnsure: impl.NodeUnsure, impl.ReadBad: impl.NodeBad}[r.Code]
	return impl.Told{Kind: impl.OpRead, Node: node, Code: code, Value: r.Value, Holds: r.Holds, Known: l.Known, Now: l.Now}
}

// A reading within an interval that leaves room for any of those below.
func tellReadAt(node, value int) impl.Told { return tellRead(node, look(-50, 50), newly(value)) }

func tellAsk(node, nonce int) impl.Told {
	return impl.Told{Kind: impl.OpAsk, Node: node, Value: nonce}
}

func tellFuse(node int, was, now impl.Ival) impl.Told {
	return impl.Told{Kind: impl.OpFuse, Node: node, Known: true, Was: was, Now: now}
}

func tellFirstFuse(node int, now impl.Ival) impl.Told {
	return impl.Told{Kind: impl.OpFuse, Node: node, Now: now}
}

func toldWith(t impl.Told, change func(t *impl.Told)) impl.Told {
	change(&t)
	return t
}

func tellsWith(list []impl.Told, i int, change func(t *impl.Told)) []impl.Told {
	list = slices.Clone(list)
	change(&list[i])
	return list
}

func wantTells(list []impl.Told, node int) []impl.Told {
	if len(list) > impl.MaxTold {
		return nil
	}
	return slices.DeleteFunc(slices.Clone(list), func(t impl.Told) bool { return t.Node != node })
}

// Which time up of its node each tell is in: how many boots and crashes of that node were done ahead of it.
func wantTimesUp(list []impl.Told) []int {
	var ups []int
	for i, t := range list {
		up := 0
		for _, other := range list[:i] {
			if other.Node == t.Node && other.Code == impl.NodeDone && slices.Contains([]int{impl.OpBoot, impl.OpCrash}, other.Kind) {
				up++
			}
		}
		ups = append(ups, up)
	}
	return ups
}

// A time up of a node, by its number.
type timeUp struct{ node, number int }

// The reads that a clock has answered, each to its time up.
func readsByTimeUp(list []impl.Told) map[timeUp][]impl.Told {
	all := map[timeUp][]impl.Told{}
	for i, number := range wantTimesUp(list) {
		if t := list[i]; t.Kind == impl.OpRead && slices.Contains([]int{impl.NodeDone, impl.NodeUnsure}, t.Code) {
			all[timeUp{t.Node, number}] = append(all[timeUp{t.Node, number}], t)
		}
	}
	return all
}

func wantJudgeReads(list []impl.Told) bool {
	for of, own := range readsByTimeUp(list) {
		var seen []impl.Look
		var read []impl.Reading
		for _, t := range own {
			code := map[int]int{impl.NodeDone: impl.ReadWell, impl.NodeUnsure: impl.ReadUnsure}[t.Code]
			seen = append(seen, impl.Look{Known: t.Known, Now: t.Now})
			read = append(read, impl.Reading{Value: t.Value, Holds: t.Holds, Code: code})
		}
		if wantNode(of.node) && !wantReadsOk(seen, read) {
			return false
		}
	}
	return len(list) <= impl.MaxTold
}

// The places of a kind's tells that were done.
func donePlaces(list []impl.Told, kind int) []int {
	var places []int
	for i, t := range list {
		if t.Kind == kind && t.Code == impl.NodeDone {
			places = append(places, i)
		}
	}
	return places
}

func wantJudgeNonces(list []impl.Told) bool {
	places := donePlaces(list, impl.OpAsk)
	for _, i := range places {
		for _, j := range places {
			if i < j && list[i].Node == list[j].Node && wantNode(list[i].Node) && list[i].Value >= list[j].Value {
				return false
			}
		}
	}
	return len(list) <= impl.MaxTold
}

func wantJudgeFuses(list []impl.Told) bool {
	for _, i := range donePlaces(list, impl.OpFuse) {
		t := list[i]
		if !bigIvalOf(t.Now).ok() || t.Known && !wantWithin(t.Now, t.Was) {
			return false
		}
	}
	return len(list) <= impl.MaxTold
}

func wantJudgeFrames(p impl.Plan, list []impl.Frame) bool {
	return wantPlanOk(p) && wantBusOk(list) && len(wantClashes(list)) == 0 && len(wantStray(p, list)) == 0
}

func wantTally(list []impl.Told, kind int) []int {
	if len(list) > impl.MaxTold {
		return nil
	}
	var tally []int
	for code := range 15 {
		tally = append(tally, len(slices.DeleteFunc(slices.Clone(list), func(t impl.Told) bool { return t.Kind != kind || t.Code != code })))
	}
	return tally
}

func wantJudgeWorld(w impl.World, list []impl.Told) bool {
	return wantWorldOk(w) && len(wantFalse(w)) == 0 && wantClean(w) && wantJudgeReads(list) && wantJudgeNonces(list) && wantJudgeFuses(list)
}

// Every code, and some that are none.
func manyCodes() []int {
	list := []int{math.MinInt, -1, 15, 16, 255, math.MaxInt}
	for code := range 15 {
		list = append(list, code)
	}
	return list
}

// Every kind, and some that are none.
func manyKinds() []int {
	list := []int{math.MinInt, -1, 0, 15, 16, math.MaxInt}
	for _, row := range opRows() {
		list = append(list, row.kind)
	}
	return list
}

// Of all sorts, right and wrong ones mixed, of few nodes, so that they come to something together.
func (l *lottery) told(nodes, wrong int) impl.Told {
	node := l.number(nodes)
	switch l.number(9) {
	case 0:
		return tellOf([]int{impl.OpBoot, impl.OpCrash}[l.number(2)], node, []int{impl.NodeDone, impl.NodeDone, impl.NodeNot, impl.NodeOff}[l.number(4)])
	case 1:
		return tellAsk(node, 1000*l.number(4)+l.number(6))
	case 2:
		now := l.sources(1, 12)[0]
		return tellFuse(node, iv(now.Lo-l.number(3), now.Hi+l.number(3)), now)
	case 3:
		return tellOf(manyKinds()[l.number(len(manyKinds()))], node, manyCodes()[l.number(len(manyCodes()))])
	case 4:
		return impl.Told{Kind: l.number(16), Node: node, Code: l.number(15), Value: l.number(9), Holds: l.number(2) == 0, Known: l.number(2) == 0, Was: l.sources(1, 9)[0], Now: l.sources(1, 9)[0]}
	}
	t := tellRead(node, l.looks(1, 9)[0], []impl.Reading{newly(l.number(9) - 4), stays(l.number(9) - 4), unsure()}[l.number(3)])
	// Mostly what a clock may tell, at least where it is the first.
	if l.number(wrong) > 0 && t.Known {
		t = tellRead(node, look(t.Now.Lo, t.Now.Hi+8), newly(l.number(9)+t.Now.Lo))
	}
	return t
}

func (l *lottery) tells(n, nodes, wrong int) []impl.Told {
	var list []impl.Told
	for range n {
		list = append(list, l.told(nodes, wrong))
	}
	return list
}

// What a world of these nodes might have told: each node's readings and nonces rise, and its fusions narrow.
func (l *lottery) rightTells(n, nodes int) []impl.Told {
	list := make([]impl.Told, 0, n)
	last, nonce := make([]int, nodes), make([]int, nodes)
	for range n {
		node := l.number(nodes)
		var t impl.Told
		switch l.number(6) {
		case 0:
			t = tellOf([]int{impl.OpBoot, impl.OpCrash}[l.number(2)], node, []int{impl.NodeDone, impl.NodeNot, impl.NodeOff, impl.NodeSpent}[l.number(4)])
		case 1:
			nonce[node] += 1 + l.number(3)
			t = tellAsk(node, nonce[node])
		case 2:
			now := l.sources(1, 12)[0]
			t = tellFuse(node, iv(now.Lo-l.number(3), now.Hi+l.number(3)), now)
		default:
			last[node] += l.number(3)
			t = tellRead(node, look(last[node]-l.number(4), last[node]+l.number(4)), newly(last[node]))
		}
		list = append(list, t)
	}
	return list
}
