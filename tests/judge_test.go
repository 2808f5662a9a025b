package tests

import (
	"math"
	"slices"
	"testing"

	"loop.example/g00072/impl"
)

func checkTells(t *testing.T, list []impl.Told, node int, want ...impl.Told) {
	t.Helper()
	if got := impl.TellsOf(list, node); !slices.Equal(got, want) || !slices.Equal(wantTells(list, node), want) {
		t.Fatalf("TellsOf(%v, %d) is %v, want %v", list, node, got, want)
	}
}

func checkReads(t *testing.T, want bool, list ...impl.Told) {
	t.Helper()
	if got := impl.JudgeReads(list); got != want || wantJudgeReads(list) != want {
		t.Fatalf("JudgeReads(%v) is %v", list, got)
	}
}

func checkNonces(t *testing.T, want bool, list ...impl.Told) {
	t.Helper()
	if got := impl.JudgeNonces(list); got != want || wantJudgeNonces(list) != want {
		t.Fatalf("JudgeNonces(%v) is %v", list, got)
	}
}

func checkFuses(t *testing.T, want bool, list ...impl.Told) {
	t.Helper()
	if got := impl.JudgeFuses(list); got != want || wantJudgeFuses(list) != want {
		t.Fatalf("JudgeFuses(%v) is %v", list, got)
	}
}

func checkFrames(t *testing.T, p impl.Plan, want bool, list ...impl.Frame) {
	t.Helper()
	if got := impl.JudgeFrames(p, list); got != want || wantJudgeFrames(p, list) != want {
		t.Fatalf("JudgeFrames(%v, %v) is %v", p, list, got)
	}
}

func checkTally(t *testing.T, list []impl.Told, kind int, want ...int) {
	t.Helper()
	if got := impl.JudgeTally(list, kind); !slices.Equal(got, want) || !slices.Equal(wantTally(list, kind), want) {
		t.Fatalf("JudgeTally(%v, %d) is %v, want %v", list, kind, got, want)
	}
}

func checkJudged(t *testing.T, w impl.World, want bool, list ...impl.Told) {
	t.Helper()
	if got := impl.JudgeWorld(w, list); got != want || wantJudgeWorld(w, list) != want {
		t.Fatalf("JudgeWorld(%v, %v) is %v", w, list, got)
	}
}

// As many as there may be, and as many more.
func fullTells(more int) []impl.Told { return slices.Repeat(tells(impl.Told{}), impl.MaxTold+more) }

func TestNumbersOfTheJudge(t *testing.T) {
	if impl.MaxTold != 200 {
		t.Error(impl.MaxTold)
	}
}

// A tell of each kind for each of the nodes.
func mixedTells() []impl.Told {
	var list []impl.Told
	for _, row := range opRows() {
		for node := range impl.MaxNodes {
			list = append(list, impl.Told{Kind: row.kind, Node: node, Code: row.kind % 3, Value: 100*node + row.kind, Known: true, Now: iv(node, row.kind+10)})
		}
	}
	return list
}

func TestTellsOf(t *testing.T) {
	list := tells(tellBoot(1), tellReadAt(2, 5), tellCrash(1), tellAsk(0, 9), tellOf(impl.OpSend, 1, impl.NodeBusy), tellReadAt(2, 5))
	checkTells(t, list, 0, tellAsk(0, 9))
	checkTells(t, list, 1, tellBoot(1), tellCrash(1), tellOf(impl.OpSend, 1, impl.NodeBusy))
	checkTells(t, list, 2, tellReadAt(2, 5), tellReadAt(2, 5))
	checkTells(t, list, 3)
	checkTells(t, nil, 0)
	checkTells(t, tells(), 0)
	// Of every kind, as they stand, those that say nothing of a node, too.
	for node := range impl.MaxNodes {
		got := impl.TellsOf(mixedTells(), node)
		for i, row := range opRows() {
			if len(got) != len(opRows()) || got[i] != mixedTells()[8*i+node] || got[i].Kind != row.kind {
				t.Fatal(node, got)
			}
		}
	}
	// What time passes tells, and an op that was not done, has the Node 0.
	checkTells(t, tells(tellOf(impl.OpPass, 0, 0), impl.Told{}, tellBoot(3)), 0, tellOf(impl.OpPass, 0, 0), impl.Told{})
}

// By the field alone: of a Node that is none, too.
func TestTellsOfNobody(t *testing.T) {
	for _, node := range noNodes() {
		checkTells(t, mixedTells(), node)
		wrong := tells(tellBoot(0), tellBoot(node), tellAsk(node, -5), tellBoot(7))
		checkTells(t, wrong, node, tellBoot(node), tellAsk(node, -5))
		checkTells(t, wrong, 0, tellBoot(0))
		checkTells(t, wrong, 7, tellBoot(7))
	}
}

func TestTheJudgeTakesSoManyTells(t *testing.T) {
	none := make([]int, 15)
	for more := -1; more < 300; more++ {
		list, is := fullTells(more), more <= 0
		checkReads(t, is, list...)
		checkNonces(t, is, list...)
		checkFuses(t, is, list...)
		checkJudged(t, town(), is, list...)
		if is {
			checkTells(t, list, 0, list...)
			checkTally(t, list, 9, none...)
			continue
		}
		// Also where there would be nothing, or few of them, to tell.
		checkTells(t, list, 0)
		checkTells(t, list, 5)
		checkTells(t, append(list, tellBoot(5)), 5)
		checkTally(t, list, 0)
		checkTally(t, list, 9)
	}
	// Full of what is looked at, up to the last one.
	var reads, nonces, fusions []impl.Told
	for i := range impl.MaxTold {
		reads = append(reads, tellRead(3, look(i, i+1), newly(i)))
		nonces = append(nonces, tellAsk(3, i))
		fusions = append(fusions, tellFuse(3, iv(0, i), iv(0, i)))
	}
	last := impl.MaxTold - 1
	checkReads(t, true, reads...)
	checkReads(t, false, tellsWith(reads, last, func(t *impl.Told) { t.Value, t.Now = last-2, iv(0, 500) })...)
	checkNonces(t, true, nonces...)
	checkNonces(t, false, tellsWith(nonces, last, func(t *impl.Told) { t.Value = last - 1 })...)
	checkFuses(t, true, fusions...)
	checkFuses(t, false, tellsWith(fusions, last, func(t *impl.Told) { t.Now.Hi++ })...)
	for _, one := range tells(reads[0], nonces[0], fusions[0]) {
		checkReads(t, false, append(slices.Clone(reads), one)...)
		checkNonces(t, false, append(slices.Clone(nonces), one)...)
		checkFuses(t, false, append(slices.Clone(fusions), one)...)
	}
}

// Readings of one node that never boots or crashes: just what ReadsOk says of them.
func TestJudgeReadsOfOneClock(t *testing.T) {
	of := func(list ...impl.Told) []impl.Told { return list }
	right := map[string][]impl.Told{
		"nothing":                   nil,
		"one":                       of(tellRead(1, look(0, 20), newly(9))),
		"at its ends":               of(tellRead(1, look(0, 20), newly(0)), tellRead(1, look(0, 20), newly(20))),
		"the same again":            of(tellRead(1, look(0, 20), newly(9)), tellRead(1, look(0, 20), newly(9))),
		"risen":                     of(tellRead(1, look(0, 20), newly(9)), tellRead(1, look(5, 25), newly(10))),
		"unsure":                    of(tellRead(1, blind(), unsure())),
		"unsure twice, then sure":   of(tellRead(1, blind(), unsure()), tellRead(1, blind(), unsure()), tellRead(1, look(-5, 5), newly(-3))),
		"held for want of a look":   of(tellRead(1, look(0, 20), newly(9)), tellRead(1, blind(), stays(9)), tellRead(1, blind(), stays(9))),
		"held above the look":       of(tellRead(1, look(0, 20), newly(9)), tellRead(1, look(0, 8), stays(9))),
		"held, and risen then":      of(tellRead(1, look(0, 20), newly(9)), tellRead(1, look(0, 8), stays(9)), tellRead(1, look(3, 30), newly(10))),
		"below 0":                   of(tellRead(1, look(-20, -5), newly(-20)), tellRead(1, look(-20, -5), newly(-5))),
		"at the ends of all":        of(tellRead(1, look(-far, far), newly(-far)), tellRead(1, look(-far, far), newly(far))),
		"a look that knows nothing": of(toldWith(tellRead(1, look(9, 3), unsure()), func(t *impl.Told) { t.Known = false })),
	}
	for name, list := range right {
		t.Run(name, func(t *testing.T) { checkReads(t, true, list...) })
	}
	wrong := map[string][]impl.Told{
		"below its look":              of(tellRead(1, look(0, 20), newly(-1))),
		"above its look":              of(tellRead(1, look(0, 20), newly(21))),
		"fallen by one":               of(tellRead(1, look(0, 20), newly(9)), tellRead(1, look(0, 20), newly(8))),
		"fallen behind a rise":        of(tellRead(1, look(0, 20), newly(9)), tellRead(1, look(0, 20), newly(12)), tellRead(1, look(0, 20), newly(11))),
		"fallen behind what was held": of(tellRead(1, look(0, 20), newly(9)), tellRead(1, blind(), stays(9)), tellRead(1, look(0, 20), newly(8))),
		"held, but not it":            of(tellRead(1, look(0, 20), newly(9)), tellRead(1, blind(), stays(10))),
		"held with none ahead":        of(tellRead(1, blind(), stays(0))),
		"held behind unsure":          of(tellRead(1, blind(), unsure()), tellRead(1, blind(), stays(0))),
		"held within its look":        of(tellRead(1, look(0, 20), newly(9)), tellRead(1, look(0, 9), stays(9))),
		"held above with none ahead":  of(tellRead(1, look(0, 8), stays(9))),
		"not held for want of a look": of(tellRead(1, look(0, 20), newly(9)), tellRead(1, blind(), newly(9))),
		"not held above its look":     of(tellRead(1, look(0, 20), newly(9)), tellRead(1, look(0, 8), newly(9))),
		"sure of nothing":             of(tellRead(1, blind(), newly(0))),
		"unsure behind one":           of(tellRead(1, look(0, 20), newly(9)), tellRead(1, blind(), unsure())),
		"unsure behind what was held": of(tellRead(1, look(0, 20), newly(0)), tellRead(1, blind(), stays(0)), tellRead(1, blind(), unsure())),
		"unsure of a look":            of(tellRead(1, look(0, 20), unsure())),
		"unsure with a value":         of(tellRead(1, blind(), impl.Reading{Value: 1, Code: impl.ReadUnsure})),
		"unsure and held":             of(tellRead(1, blind(), impl.Reading{Holds: true, Code: impl.ReadUnsure})),
	}
	for name, list := range wrong {
		t.Run(name, func(t *testing.T) { checkReads(t, false, list...) })
	}
	for _, now := range wrongSources() {
		checkReads(t, false, tellRead(1, impl.Look{Known: true, Now: now}, newly(now.Lo)))
		checkReads(t, false, tellReadAt(1, 5), tellRead(1, impl.Look{Known: true, Now: now}, stays(5)))
		// Of a look that knows nothing its interval is not looked at.
		checkReads(t, true, tellReadAt(1, 5), tellRead(1, impl.Look{Now: now}, stays(5)))
	}
}

// What lies between a reading and a lower one decides: a boot or a crash that was done, of that node, and nothing else.
func TestATimeUpEndsByABootOrACrashThatWasDone(t *testing.T) {
	for _, kind := range manyKinds() {
		for _, code := range manyCodes() {
			for _, node := range append(noNodes(), 0, 1, 2, 7) {
				between := tellOf(kind, node, code)
				ends := (kind == impl.OpBoot || kind == impl.OpCrash) && code == impl.NodeDone && node == 1
				if kind == impl.OpRead && (code == impl.NodeDone || code == impl.NodeUnsure) && wantNode(node) {
					continue
				}
				checkReads(t, ends, tellReadAt(1, 9), between, tellReadAt(1, 8))
				checkReads(t, true, tellReadAt(1, 9), between, tellReadAt(1, 9))
				// All else that it tells does not matter.
				between = toldWith(between, func(t *impl.Told) { t.Value, t.Holds, t.Known, t.Was, t.Now = 5, true, true, iv(9, 3), iv(7, 1) })
				if kind != impl.OpRead {
					checkReads(t, ends, tellReadAt(1, 9), between, tellReadAt(1, 8))
				}
				// A clock that has just begun has nothing to hold.
				checkReads(t, !ends, tellReadAt(1, 9), between, tellRead(1, blind(), stays(9)))
				checkReads(t, ends, tellReadAt(1, 9), between, tellRead(1, blind(), unsure()))
			}
		}
	}
}

// Each time up is judged by itself: the first from the first tell on, the last up to the last one, those between, and empty ones.
func TestEachTimeUpIsJudged(t *testing.T) {
	fallen := tells(tellReadAt(1, 9), tellReadAt(1, 8))
	risen := tells(tellReadAt(1, 8), tellReadAt(1, 9))
	for _, end := range tells(tellBoot(1), tellCrash(1)) {
		for _, other := range tells(tellBoot(1), tellCrash(1)) {
			both := func(first, second, third []impl.Told) []impl.Told {
				return slices.Concat(first, tells(end), second, tells(other), third)
			}
			checkReads(t, true, both(nil, nil, nil)...)
			checkReads(t, true, both(risen, risen, risen)...)
			checkReads(t, false, both(fallen, risen, risen)...)
			checkReads(t, false, both(risen, fallen, risen)...)
			checkReads(t, false, both(risen, risen, fallen)...)
			checkReads(t, false, both(fallen, nil, nil)...)
			checkReads(t, false, both(nil, fallen, nil)...)
			checkReads(t, false, both(nil, nil, fallen)...)
			checkReads(t, true, both(risen[1:], nil, risen[:1])...)
			checkReads(t, true, both(fallen[:1], fallen[1:], tells(tellReadAt(1, -3)))...)
		}
	}
	// From a boot to the crash behind it, and not to the next boot.
	checkReads(t, true, tellBoot(1), tellReadAt(1, 9), tellCrash(1), tellReadAt(1, 5), tellBoot(1), tellReadAt(1, 2))
	checkReads(t, false, tellBoot(1), tellReadAt(1, 9), tellCrash(1), tellReadAt(1, 5), tellReadAt(1, 4), tellBoot(1), tellReadAt(1, 2))
	// A boot that was refused between two that were done.
	checkReads(t, false, tellBoot(1), tellReadAt(1, 9), tellOf(impl.OpBoot, 1, impl.NodeNot), tellReadAt(1, 8), tellBoot(1))
	checkReads(t, false, tellBoot(1), tellReadAt(1, 9), tellOf(impl.OpCrash, 1, impl.NodeOff), tellReadAt(1, 8), tellCrash(1))
}

// Each node by itself: readings of the others, and their boots and crashes, lie between and change nothing.
func TestEachNodesReadsAreJudged(t *testing.T) {
	for node := range impl.MaxNodes {
		for other := range impl.MaxNodes {
			if other == node {
				continue
			}
			checkReads(t, true, tellReadAt(node, 9), tellReadAt(other, 5), tellReadAt(node, 9), tellReadAt(other, 6))
			checkReads(t, false, tellReadAt(node, 9), tellReadAt(other, 10), tellReadAt(node, 8))
			checkReads(t, false, tellReadAt(node, 9), tellBoot(other), tellReadAt(other, 3), tellCrash(other), tellReadAt(node, 8))
			checkReads(t, true, tellReadAt(node, 9), tellReadAt(other, 7), tellBoot(node), tellReadAt(node, 8), tellReadAt(other, 7))
			checkReads(t, false, tellReadAt(node, 9), tellReadAt(other, 7), tellBoot(node), tellReadAt(node, 8), tellReadAt(other, 6))
			// What the other one told holds nothing for this one.
			checkReads(t, false, tellReadAt(other, 9), tellRead(node, blind(), stays(9)))
			checkReads(t, true, tellReadAt(other, 9), tellRead(node, blind(), unsure()))
		}
	}
	// Those that are told of no node are not judged, and part nothing.
	for _, nobody := range noNodes() {
		checkReads(t, true, tellReadAt(nobody, 9), tellReadAt(nobody, 8), tellRead(nobody, blind(), newly(3)))
		checkReads(t, false, tellReadAt(0, 9), tellReadAt(nobody, 8), tellReadAt(0, 7))
	}
}

// Reads with another code, and other kinds, are left out, whatever they tell.
func TestJudgeReadsLooksAtReadsAlone(t *testing.T) {
	for _, kind := range manyKinds() {
		for _, code := range manyCodes() {
			one := impl.Told{Kind: kind, Node: 1, Code: code, Value: 3, Holds: true, Known: true, Now: iv(8, 2)}
			counts := kind == impl.OpRead && (code == impl.NodeDone || code == impl.NodeUnsure)
			checkReads(t, !counts, one)
			checkReads(t, !counts, tellReadAt(1, 9), one)
			if kind != impl.OpBoot && kind != impl.OpCrash {
				checkReads(t, !counts, tellReadAt(1, 9), one, tellReadAt(1, 9))
			}
		}
	}
}

func TestJudgeNonces(t *testing.T) {
	checkNonces(t, true)
	checkNonces(t, true, tellAsk(1, 1000))
	checkNonces(t, true, tellAsk(1, 1000), tellAsk(1, 1001), tellAsk(1, 2000))
	checkNonces(t, false, tellAsk(1, 1000), tellAsk(1, 1000))
	checkNonces(t, false, tellAsk(1, 1001), tellAsk(1, 1000))
	checkNonces(t, false, tellAsk(1, 1000), tellAsk(1, 1002), tellAsk(1, 1001))
	checkNonces(t, false, tellAsk(1, 1000), tellAsk(1, 1001), tellAsk(1, 1000))
	// Whatever numbers they are.
	numbers := []int{math.MinInt, -far, -1, 0, 1, impl.MaxNonce, impl.MaxNonce + 1, math.MaxInt}
	for _, a := range numbers {
		checkNonces(t, true, tellAsk(1, a))
		for _, b := range numbers {
			checkNonces(t, a < b, tellAsk(1, a), tellAsk(1, b))
		}
	}
}

// A boot or a crash between them parts nothing: a nonce is never told again.
func TestNoncesAscendOverAllTimesUp(t *testing.T) {
	for _, kind := range manyKinds() {
		for _, code := range manyCodes() {
			if kind == impl.OpAsk && code == impl.NodeDone {
				continue
			}
			between := impl.Told{Kind: kind, Node: 1, Code: code, Value: 1000, Holds: true, Known: true, Was: iv(9, 3), Now: iv(9, 3)}
			checkNonces(t, false, tellAsk(1, 1000), between, tellAsk(1, 1000))
			checkNonces(t, false, tellAsk(1, 1001), between, tellAsk(1, 1000))
			checkNonces(t, true, tellAsk(1, 1000), between, tellAsk(1, 1001))
			// It is no nonce of its own.
			checkNonces(t, true, tellAsk(1, 1000), between, between)
			checkNonces(t, true, tellAsk(1, 1003), between, tellAsk(1, 1004))
		}
	}
}

func TestEachNodesNoncesAreJudged(t *testing.T) {
	for node := range impl.MaxNodes {
		for other := range impl.MaxNodes {
			if other == node {
				continue
			}
			checkNonces(t, true, tellAsk(node, 1000), tellAsk(other, 1000), tellAsk(node, 1001), tellAsk(other, 1001))
			checkNonces(t, true, tellAsk(node, 2000), tellAsk(other, 1000))
			checkNonces(t, false, tellAsk(node, 1000), tellAsk(other, 1001), tellAsk(node, 1000))
			checkNonces(t, false, tellAsk(other, 1000), tellAsk(node, 1001), tellAsk(other, 999), tellAsk(node, 1002))
		}
	}
	for _, nobody := range noNodes() {
		checkNonces(t, true, tellAsk(nobody, 1000), tellAsk(nobody, 1000), tellAsk(nobody, 999))
		checkNonces(t, false, tellAsk(7, 1000), tellAsk(nobody, 1001), tellAsk(7, 1000))
	}
}

func TestJudgeFuses(t *testing.T) {
	checkFuses(t, true)
	was := iv(1, 5)
	for _, now := range ivalsOf(smallNumbers()) {
		within := now.Lo <= now.Hi && now.Lo >= 1 && now.Hi <= 5
		checkFuses(t, within, tellFuse(2, was, now))
		// Where nothing was known it may be any interval, whatever Was is.
		checkFuses(t, now.Lo <= now.Hi, tellFirstFuse(2, now))
		checkFuses(t, now.Lo <= now.Hi, toldWith(tellFirstFuse(2, now), func(t *impl.Told) { t.Was = iv(3, 3) }))
	}
	for _, a := range wrongSources() {
		checkFuses(t, false, tellFirstFuse(2, a))
		checkFuses(t, false, tellFuse(2, a, a))
		checkFuses(t, false, tellFuse(2, was, a))
		checkFuses(t, false, tellFuse(2, a, iv(0, 0)))
		checkFuses(t, true, toldWith(tellFirstFuse(2, iv(0, 0)), func(t *impl.Told) { t.Was = a }))
	}
	checkFuses(t, true, tellFuse(2, iv(-far, far), iv(-far, far)))
	checkFuses(t, true, tellFirstFuse(2, iv(-far, far)))
	// Each by itself, whoever told it: what is known widens again between two fusions.
	checkFuses(t, true, tellFuse(2, was, iv(3, 3)), tellFuse(2, iv(0, 9), iv(0, 8)), tellFuse(3, iv(20, 30), iv(20, 30)))
	for place := range 4 {
		list := slices.Repeat(tells(tellFuse(2, was, was)), 4)
		checkFuses(t, true, list...)
		checkFuses(t, false, tellsWith(list, place, func(t *impl.Told) { t.Now.Hi = 6 })...)
		checkFuses(t, false, tellsWith(list, place, func(t *impl.Told) { t.Now.Lo = 0 })...)
	}
}

// Of fusions that were done alone, but those of anybody: it is asked of each tell, not of each node.
func TestJudgeFusesLooksAtFusionsThatWereDone(t *testing.T) {
	for _, kind := range manyKinds() {
		for _, code := range manyCodes() {
			for _, node := range append(noNodes(), 0, 1, 7) {
				wide := impl.Told{Kind: kind, Node: node, Code: code, Known: true, Was: iv(1, 5), Now: iv(1, 6)}
				counts := kind == impl.OpFuse && code == impl.NodeDone
				checkFuses(t, !counts, wide)
				checkFuses(t, !counts, tellFuse(1, iv(1, 5), iv(2, 5)), wide, tellFuse(1, iv(1, 5), iv(2, 5)))
			}
		}
	}
}

func TestJudgeFrames(t *testing.T) {
	// Slots from 10 to 15 of node 0 and from 17 to 20 of node 1, a round of 12.
	p := planOf(10, 2, sl(0, 5), sl(1, 3))
	checkFrames(t, p, true)
	checkFrames(t, p, true, fm(0, 0, 0, 10, 15), fm(1, 1, 0, 17, 20), fm(0, 0, 1, 22, 24))
	checkFrames(t, p, true, fm(0, 0, 0, 10, 12), fm(0, 0, 0, 12, 15))
	wrong := map[string][]impl.Frame{
		"two of one node at once": bus(fm(0, 0, 0, 10, 13), fm(0, 0, 0, 12, 15)),
		"one and another's":       bus(fm(0, 0, 0, 10, 15), fm(1, 1, 0, 14, 20)),
		"ahead of its slot":       bus(fm(0, 0, 0, 9, 12)),
		"past its slot":           bus(fm(0, 0, 0, 12, 16)),
		"in a gap":                bus(fm(0, 0, 0, 15, 16)),
		"ahead of the plan":       bus(fm(0, 0, 0, 1, 2)),
		"of who does not own it":  bus(fm(1, 0, 0, 10, 12)),
		"with another slot":       bus(fm(0, 1, 0, 10, 12)),
		"with a slot that is not": bus(fm(0, 9, 0, 10, 12)),
		"with another round":      bus(fm(0, 0, 1, 10, 12)),
		"the last one alone":      bus(fm(0, 0, 0, 10, 15), fm(1, 1, 0, 17, 20), fm(0, 0, 1, 22, 28)),
		"the first one alone":     bus(fm(0, 0, 5, 10, 15), fm(1, 1, 0, 17, 20), fm(0, 0, 1, 22, 24)),
		"out of order":            bus(fm(1, 1, 0, 17, 20), fm(0, 0, 0, 10, 15)),
	}
	for name, list := range wrong {
		t.Run(name, func(t *testing.T) { checkFrames(t, p, false, list...) })
	}
	for name, list := range wrongBuses() {
		t.Run(name, func(t *testing.T) { checkFrames(t, p, false, list...) })
	}
	for name, wrong := range wrongPlans() {
		t.Run("a plan, "+name, func(t *testing.T) {
			checkFrames(t, wrong, false)
			checkFrames(t, wrong, false, fm(0, 0, 0, 10, 12))
		})
	}
}

// As many frames as may be, each in its slot, and one more.
func TestJudgeFramesTakesSoMany(t *testing.T) {
	p := planOf(0, 0, sl(3, 1))
	var list []impl.Frame
	for n := range impl.MaxFrames + 2 {
		checkFrames(t, p, n <= impl.MaxFrames, list...)
		list = append(list, fm(3, 0, n, n, n+1))
	}
}

func TestJudgeTally(t *testing.T) {
	checkTally(t, nil, impl.OpBoot, make([]int, 15)...)
	list := tells(tellBoot(1), tellBoot(2), tellOf(impl.OpBoot, 1, impl.NodeNot), tellOf(impl.OpBoot, 3, impl.NodeSpent), tellOf(impl.OpCrash, 1, impl.NodeOff), tellBoot(-5))
	checkTally(t, list, impl.OpBoot, 3, 0, 0, 0, 1, 0, 0, 0, 0, 0, 0, 0, 0, 0, 1)
	checkTally(t, list, impl.OpCrash, 0, 0, 1, 0, 0, 0, 0, 0, 0, 0, 0, 0, 0, 0, 0)
	checkTally(t, list, impl.OpRead, make([]int, 15)...)
	// Each code of each kind is counted at its place, and what is no code nowhere.
	for _, kind := range manyKinds() {
		var all []impl.Told
		for _, code := range manyCodes() {
			want := make([]int, 15)
			one := tellOf(kind, 2, code)
			if 0 <= code && code <= 14 {
				want[code] = 2
			}
			checkTally(t, tells(one, one), kind, want...)
			for _, other := range manyKinds() {
				if other != kind {
					checkTally(t, tells(one, one), other, make([]int, 15)...)
				}
			}
			for range max(0, min(code, 20)) {
				all = append(all, one)
			}
		}
		checkTally(t, all, kind, 0, 1, 2, 3, 4, 5, 6, 7, 8, 9, 10, 11, 12, 13, 14)
	}
	checkTally(t, slices.Repeat(tells(tellOf(impl.OpSend, 1, impl.NodeBusy)), impl.MaxTold), impl.OpSend, 0, 0, 0, 0, 0, 0, 0, 0, 0, 0, 0, 0, 0, impl.MaxTold, 0)
}

// Each of its reasons alone.
func TestJudgeWorld(t *testing.T) {
	list := tells(tellBoot(1), tellReadAt(1, 9), tellAsk(1, 1000), tellFuse(1, iv(1, 5), iv(2, 5)), tellReadAt(1, 9), tellAsk(1, 1001))
	checkJudged(t, town(), true)
	checkJudged(t, town(), true, list...)
	checkJudged(t, newWorld(still(), 1, 0), true, list...)
	checkJudged(t, newWorld(still(), 3, 3), true, list...)
	for name, w := range wrongWorlds() {
		t.Run(name, func(t *testing.T) {
			checkJudged(t, w, false)
			checkJudged(t, w, false, list...)
		})
	}
	// A node that is false; as a liar it is not asked.
	checkJudged(t, townWith(func(w *impl.World) { w.Liars[6] = false }), false, list...)
	checkJudged(t, townWith(func(w *impl.World) { w.Time = 119 }), false, list...)
	checkJudged(t, townWith(func(w *impl.World) { w.Time, w.Liars[7] = 119, true }), true, list...)
	// A bus that is not clean; what liars sent does not count.
	stray, clashing := fm(0, 0, 7, 106, 108), bus(fm(0, 0, 8, 106, 108), fm(0, 0, 8, 107, 109))
	checkJudged(t, townWith(func(w *impl.World) { w.Frames = bus(stray) }), false, list...)
	checkJudged(t, townWith(func(w *impl.World) { w.Frames = clashing }), false, list...)
	checkJudged(t, townWith(func(w *impl.World) { w.Frames = bus(fm(6, 0, 7, 106, 108)) }), true, list...)
	// What was told.
	checkJudged(t, town(), false, tellsWith(list, 4, func(t *impl.Told) { t.Value = 8 })...)
	checkJudged(t, town(), false, tellsWith(list, 5, func(t *impl.Told) { t.Value = 1000 })...)
	checkJudged(t, town(), false, tellsWith(list, 3, func(t *impl.Told) { t.Now.Hi = 6 })...)
	checkJudged(t, town(), false, fullTells(1)...)
	checkJudged(t, town(), true, fullTells(0)...)
}
