package tests

import (
	"math"
	"runtime"
	"slices"
	"sync"
	"testing"

	"loop.example/g00072/impl"
)

// All that the judge says of a list, held against the document read again.
func checkJudge(t *testing.T, list []impl.Told) [3]bool {
	t.Helper()
	got := [3]bool{impl.JudgeReads(list), impl.JudgeNonces(list), impl.JudgeFuses(list)}
	if want := [3]bool{wantJudgeReads(list), wantJudgeNonces(list), wantJudgeFuses(list)}; got != want {
		t.Fatalf("%v is judged %v, want %v", list, got, want)
	}
	return got
}

func TestJudgementsAsTheDocumentSays(t *testing.T) {
	draw := &lottery{state: 201}
	var right, wrong [3]int
	for round := range 12000 {
		most := []int{3, 6, 12, 40}[round%4]
		if round%400 == 0 {
			most = impl.MaxTold + 3
		}
		list := draw.tells(draw.number(most), 1+draw.number(4), 2+draw.number(30))
		for i, is := range checkJudge(t, list) {
			if is && len(list) > 1 {
				right[i]++
			} else {
				wrong[i]++
			}
		}
		node, kind := draw.number(5)-1, draw.number(17)-1
		checkTells(t, list, node, wantTells(list, node)...)
		checkTally(t, list, kind, wantTally(list, kind)...)
	}
	if slices.Min(right[:]) < 1000 || slices.Min(wrong[:]) < 1000 {
		t.Fatal("too few", right, wrong)
	}
}

// Every list of few tells of a palette: what ends a time up and what seems to, around readings that fall, rise and are held.
func TestEveryListOfFewTells(t *testing.T) {
	palette := tells(tellBoot(0), tellCrash(0), tellOf(impl.OpBoot, 0, impl.NodeNot), tellBoot(1), tellReadAt(0, 1), tellReadAt(0, 2), tellReadAt(1, 1), tellRead(0, blind(), stays(2)), tellRead(0, blind(), unsure()))
	both := [2]int{}
	for _, list := range listsOf(palette, 5) {
		got, want := impl.JudgeReads(list), wantJudgeReads(list)
		if got != want {
			t.Fatalf("JudgeReads(%v) is %v", list, got)
		}
		if got {
			both[0]++
		} else {
			both[1]++
		}
	}
	if both[0] < 5000 || both[1] < 5000 {
		t.Fatal("too few", both)
	}
	asking := tells(tellBoot(0), tellAsk(0, 1), tellAsk(0, 2), tellAsk(0, 3), tellAsk(1, 2), tellOf(impl.OpAsk, 0, impl.NodeFull), tellReadAt(0, 2))
	for _, list := range listsOf(asking, 5) {
		if got := impl.JudgeNonces(list); got != wantJudgeNonces(list) {
			t.Fatalf("JudgeNonces(%v) is %v", list, got)
		}
	}
}

func TestJudgedFramesAsTheDocumentSays(t *testing.T) {
	draw := &lottery{state: 202}
	right, wrong := 0, 0
	for round := range 6000 {
		p := draw.smallPlan()
		list, _ := draw.busFor(p, draw.number(8), round%2 == 0)
		if round%5 == 0 {
			list = draw.smallBus()
		}
		checkFrames(t, p, wantJudgeFrames(p, list), list...)
		// Frames are right just if each clashes with none and each is right alone.
		alone := true
		for i := range list {
			alone = alone && impl.JudgeFrames(p, list[i:i+1])
		}
		if got := impl.JudgeFrames(p, list); got != (alone && len(impl.BusClashes(list)) == 0 && impl.BusOk(list)) {
			t.Fatal(p, list, got)
		}
		if len(list) > 1 && impl.JudgeFrames(p, list) {
			right++
		} else {
			wrong++
		}
	}
	if right < 500 || wrong < 500 {
		t.Fatal("too few", right, wrong)
	}
}

func TestJudgedWorldsAsTheDocumentSays(t *testing.T) {
	draw := &lottery{state: 203}
	both := map[bool]int{}
	for range 1500 {
		w := draw.world()
		// Mostly without what was drawn of the bus and of what is known, so that something is left to be judged.
		if draw.number(3) > 0 {
			w.Frames = nil
			for _, place := range impl.WorldFalse(w) {
				w.Liars[place] = true
			}
		}
		if draw.number(10) == 0 {
			w.Time = -1
		}
		list := draw.rightTells(draw.number(12), 3)
		if draw.number(4) == 0 {
			list = draw.tells(draw.number(12), 3, 20)
		}
		want := wantJudgeWorld(w, list)
		checkJudged(t, w, want, list...)
		both[want]++
	}
	if both[true] < 300 || both[false] < 300 {
		t.Fatal("too few", both)
	}
}

// What is right of a list stays so: each node by itself and all together are the same, in whatever order their tells are mixed; cut ahead of where a node boots its readings are judged as their halves.
func TestNodesAndTimesUpAreJudgedApart(t *testing.T) {
	draw := &lottery{state: 204}
	both := map[bool]int{}
	for range 3000 {
		list := draw.tells(draw.number(14), 3, 12)
		if draw.number(2) == 0 {
			list = draw.rightTells(draw.number(60), 3)
		}
		var sorted []impl.Told
		alone := [2]bool{true, true}
		for node := range 3 {
			own := impl.TellsOf(list, node)
			alone[0], alone[1] = alone[0] && impl.JudgeReads(own), alone[1] && impl.JudgeNonces(own)
			sorted = append(sorted, own...)
		}
		whole := [2]bool{impl.JudgeReads(list), impl.JudgeNonces(list)}
		if whole != alone || whole != [2]bool{impl.JudgeReads(sorted), impl.JudgeNonces(sorted)} {
			t.Fatalf("%v is judged %v, and node for node %v", list, whole, alone)
		}
		both[whole[0]]++
		own := impl.TellsOf(list, 0)
		for i, one := range own {
			if one.Code == impl.NodeDone && (one.Kind == impl.OpBoot || one.Kind == impl.OpCrash) {
				halves := impl.JudgeReads(own[:i]) && impl.JudgeReads(own[i+1:])
				if halves != impl.JudgeReads(own) || impl.JudgeReads(own[i:]) != impl.JudgeReads(own[i+1:]) {
					t.Fatalf("%v, cut at %d", own, i)
				}
			}
		}
	}
	if both[true] < 500 || both[false] < 500 {
		t.Fatal("too few", both)
	}
}

// Codes and kinds are all counted, each tell once.
func TestTalliesAreTheWhole(t *testing.T) {
	draw := &lottery{state: 205}
	for range 500 {
		list := draw.tells(draw.number(impl.MaxTold+1), 5, 5)
		sum, codes := 0, 0
		for _, kind := range manyKinds() {
			for _, n := range impl.JudgeTally(list, kind) {
				sum += n
			}
		}
		for _, one := range list {
			if 0 <= one.Code && one.Code <= 14 {
				codes++
			}
		}
		if sum != codes {
			t.Fatal(list, sum, codes)
		}
	}
}

// Clocks are read often, and nodes crash and boot again, so that there are many times up with several readings.
func (h *history) readsMuch() {
	node := h.draw.placeIn(h.w, false)
	switch h.draw.number(10) {
	case 0:
		h.fallsAndRises(node, 0, h.draw.number(60))
		h.passes(h.draw.number(4))
		h.fallsAndRises(node, h.draw.number(60), 0)
	case 1:
		h.do(opFix(node, h.draw.number(30), h.draw.number(30)))
		h.do(opOf(impl.OpBoot, node))
	case 2:
		h.talks()
	case 3:
		h.turns()
	case 4, 5, 6:
		h.passes(h.draw.number(4))
		h.do(opOf(impl.OpRead, node))
	case 7:
		h.do(opAsk(node, (node+1)%len(h.w.Nodes)))
	default:
		h.do(h.next())
	}
}

// It reads behind a crash, and when it is up again, by an interval whose middle may lie below what it read ahead of that.
func (h *history) fallsAndRises(node, a, b int) {
	h.do(opOf(impl.OpCrash, node))
	h.do(opOf(impl.OpRead, node))
	h.do(opOf(impl.OpBoot, node))
	h.do(opFix(node, a, b))
	h.do(opOf(impl.OpRead, node))
}

// P20: what such a world told is judged right, at each place, and what is changed in it is not.
func (h *history) judged() {
	h.t.Helper()
	for len(h.told) < impl.MaxTold {
		h.readsMuch()
		list := h.told[:min(len(h.told), impl.MaxTold)]
		if !impl.JudgeWorld(h.w, list) {
			h.t.Fatalf("judged wrong: %v told %v", h.w, list)
		}
	}
	list := h.told[:impl.MaxTold]
	for n := range list {
		if checkJudge(h.t, list[:n]) != [3]bool{true, true, true} {
			h.t.Fatal("judged wrong", list[:n])
		}
	}
	for node := range h.w.Nodes {
		if own := impl.TellsOf(list, node); checkJudge(h.t, own) != [3]bool{true, true, true} {
			h.t.Fatal("judged wrong", own)
		}
	}
	if !impl.JudgeFrames(h.w.Cfg.Plan, h.w.Frames) {
		h.t.Fatal("judged wrong", h.w.Frames)
	}
	h.lowersReadings(list)
	h.tellsNoncesAgain(list)
	h.widensFusions(list)
	h.forgetsBoots(list)
}

// That it is found, by the one who looks for it and by who looks at all, and by no other.
func (h *history) finds(name string, list []impl.Told, who int) {
	h.t.Helper()
	want := [3]bool{true, true, true}
	want[who] = false
	if got := checkJudge(h.t, list); got != want || impl.JudgeWorld(h.w, list) {
		h.t.Fatalf("%s: %v is judged %v", name, list, got)
	}
	h.done[name]++
}

// P20: of each two readings of one time up the later one, lowered below the one ahead.
func (h *history) lowersReadings(list []impl.Told) {
	h.t.Helper()
	ups := wantTimesUp(list)
	places := donePlaces(list, impl.OpRead)
	for n, j := range places {
		for _, i := range places[:n] {
			if list[i].Node != list[j].Node || ups[i] != ups[j] {
				continue
			}
			for _, by := range []int{1, 2, 1000} {
				h.finds("a reading that fell", tellsWith(list, j, func(t *impl.Told) { t.Value = list[i].Value - by }), 0)
			}
			// Also where the interval would have let it.
			h.finds("a reading that fell within", tellsWith(list, j, func(t *impl.Told) {
				t.Value, t.Holds, t.Known, t.Now = list[i].Value-1, false, true, iv(-far, far)
			}), 0)
			h.finds("unsure behind a reading", tellsWith(list, j, func(t *impl.Told) { *t = tellRead(t.Node, blind(), unsure()) }), 0)
			break
		}
		if list[j].Known && !list[j].Holds {
			h.finds("a reading above", tellsWith(list, j, func(t *impl.Told) { t.Value = t.Now.Hi + 1 }), 0)
		}
		h.finds("held and not", tellsWith(list, j, func(t *impl.Told) { t.Holds = !t.Holds }), 0)
	}
}

// P20: a nonce that was told ahead by the same node, in the same time up or in one ahead.
func (h *history) tellsNoncesAgain(list []impl.Told) {
	h.t.Helper()
	ups := wantTimesUp(list)
	places := donePlaces(list, impl.OpAsk)
	for n, j := range places {
		for _, i := range places[:n] {
			if list[i].Node != list[j].Node {
				continue
			}
			name := "a nonce again"
			if ups[i] != ups[j] {
				name = "a nonce of a time up ahead"
			}
			h.finds(name, tellsWith(list, j, func(t *impl.Told) { t.Value = list[i].Value }), 1)
		}
	}
}

// P20: a fusion that tells one number more than was known, or no interval.
func (h *history) widensFusions(list []impl.Told) {
	h.t.Helper()
	for _, i := range donePlaces(list, impl.OpFuse) {
		if list[i].Known {
			h.finds("a fusion that widened", tellsWith(list, i, func(t *impl.Told) { t.Now.Lo = t.Was.Lo - 1 }), 2)
			h.finds("a fusion that widened", tellsWith(list, i, func(t *impl.Told) { t.Now.Hi = t.Was.Hi + 1 }), 2)
		}
		h.finds("a fusion that is none", tellsWith(list, i, func(t *impl.Told) { t.Now = iv(t.Now.Hi+1, t.Now.Hi) }), 2)
	}
}

// Where a node read less in a time up than in the one ahead, that is right by the boot or the crash between them alone.
func (h *history) forgetsBoots(list []impl.Told) {
	h.t.Helper()
	last := map[int]int{}
	ups := wantTimesUp(list)
	for _, j := range donePlaces(list, impl.OpRead) {
		node := list[j].Node
		i, there := last[node]
		last[node] = j
		if !there || ups[i] == ups[j] || list[i].Value <= list[j].Value {
			continue
		}
		var kept []impl.Told
		for k, one := range list {
			if k < i || k > j || one.Node != node || one.Kind != impl.OpBoot && one.Kind != impl.OpCrash {
				kept = append(kept, one)
			} else {
				// The node would not have done it.
				kept = append(kept, toldWith(one, func(t *impl.Told) { t.Code = impl.NodeNot }))
			}
		}
		h.finds("a reading that fell over a boot", kept, 0)
	}
}

func TestWhatAWorldToldIsJudgedRight(t *testing.T) {
	draw, done := &lottery{state: 206}, map[string]int{}
	for _, d := range []impl.Drift{dr(0, 1), dr(1, 2), dr(1, 9), dr(1, 100), dr(1, impl.MaxDen)} {
		for lie := range 4 {
			for range 2 {
				h := begin(t, draw, draw.newTown(d, lie), done)
				h.rises()
				h.judged()
			}
		}
	}
	names := []string{
		"a reading that fell", "a reading that fell within", "unsure behind a reading", "a reading above", "held and not", "a nonce again",
		"a nonce of a time up ahead", "a fusion that widened", "a fusion that is none", "a reading that fell over a boot", "fused beside a lie",
	}
	for _, name := range names {
		if done[name] < 20 {
			t.Error("too few", name, done)
		}
	}
}

// The same from worlds that are new but for their time and counts, where what is known is lost at the end of time.
func TestWhatAWorldToldAtTheEndOfTimeIsJudgedRight(t *testing.T) {
	draw, done := &lottery{state: 207}, map[string]int{}
	for _, d := range []impl.Drift{dr(0, 1), dr(1, 2), dr(1, 1000)} {
		for lie := range 3 {
			for range 2 {
				w := draw.newTown(d, lie)
				w.Time = far - 20 - draw.number(80)
				for i := range w.Counts {
					w.Counts[i] = draw.number(900)
				}
				h := begin(t, draw, w, done)
				h.rises()
				h.judged()
				for _, one := range h.told[:impl.MaxTold] {
					if one.Kind == impl.OpRead && one.Code == impl.NodeDone && one.Holds && !one.Known {
						done["held for want of a look"]++
					}
				}
			}
		}
	}
	for _, name := range []string{"held for want of a look", "a reading that fell", "a nonce again", "a fusion that widened"} {
		if done[name] < 20 {
			t.Error("too few", name, done)
		}
	}
}

// P20 over every run of few ops of a palette, from worlds on in which nodes have asked and read already.
func TestEveryRunOfFewOpsIsJudgedRight(t *testing.T) {
	c := cfgWith(func(c *impl.Cfg) { c.Drift, c.Lie, c.Plan = dr(1, 3), 1, planOf(3, 1, sl(0, 9), sl(1, 9)) })
	start, ok := impl.NewWorld(c, bools(false, false, true))
	if !ok {
		t.Fatal("no world")
	}
	lie := packed(reply(2, 0, 1001, iv(40, 41)))
	asking := []impl.Op{
		opOf(impl.OpBoot, 0), opOf(impl.OpBoot, 1), opOf(impl.OpRead, 0), opFix(0, 1, 9), opFix(1, 0, 0), opAsk(0, 1), opAsk(0, 2), opAt(impl.OpDeliver, 0), opForge(2, 0, lie), opOf(impl.OpRead, 0),
	}
	palette := []impl.Op{
		opPass(3, 9, -9), opOf(impl.OpBoot, 0), opOf(impl.OpCrash, 0), opFix(0, 2, 0), opFix(0, 0, 2), opOf(impl.OpRead, 0), opAsk(0, 1), opAt(impl.OpDeliver, 1), opOf(impl.OpFuse, 0), opSend(0, 9, "x"),
	}
	many := 0
	var follow func(w impl.World, list []impl.Told, left int)
	follow = func(w impl.World, list []impl.Told, left int) {
		many++
		if !impl.JudgeWorld(w, list) {
			t.Fatalf("%v told %v", w, list)
		}
		for _, o := range palette {
			if left == 0 {
				return
			}
			got := doOp(w, o)
			follow(got.w, append(slices.Clip(list), got.told), left-1)
		}
	}
	follow(start, nil, 5)
	asked := runOps(start, asking)
	follow(asked.w, asked.told, 5)
	if many < 200000 {
		t.Fatal("too few", many)
	}
}

// Beyond what the promise is of: where one liar more than the settings bear is believed the world is judged wrong, and with as many as they bear it is not.
func TestAWorldThatBelievesALiarIsJudgedWrong(t *testing.T) {
	for lie := range 4 {
		checkJudged(t, believing(lie, lie+1), false)
		if lie > 0 {
			checkJudged(t, believing(lie, lie), true)
		}
	}
}

// P23: neither the tells nor the spare room behind them are written into; what is told has memory of its own, each time.
func TestJudgementsShareNothing(t *testing.T) {
	draw := &lottery{state: 208}
	for _, n := range []int{0, 1, 2, 3, 60, impl.MaxTold - 1, impl.MaxTold, impl.MaxTold + 1} {
		room := append(draw.tells(n, 3, 9), tellReadAt(0, -7), tellBoot(1), tellAsk(2, -7))
		kept, list := slices.Clone(room), room[:n]
		one, other := impl.TellsOf(list, 0), impl.TellsOf(list, 0)
		tally, again := impl.JudgeTally(list, impl.OpRead), impl.JudgeTally(list, impl.OpRead)
		checkJudge(t, list)
		checkApart(t, []region{regionOf("the tells", room), regionOf("one", one), regionOf("the other", other), regionOf("a tally", tally), regionOf("another", again)})
		if !slices.Equal(room, kept) || !slices.Equal(one, other) || !slices.Equal(tally, again) {
			t.Fatal("written into", n)
		}
		overwrite(one, impl.Told{Kind: -9})
		overwrite(tally, -9)
		if !slices.Equal(room, kept) || !slices.Equal(other, wantTells(list, 0)) || !slices.Equal(again, wantTally(list, impl.OpRead)) {
			t.Fatal("shared", n)
		}
	}
	worlds := rightWorlds()
	worlds["one that is none"] = townWith(func(w *impl.World) { w.Time = -1 })
	for name, first := range worlds {
		w, room := roomyWorld(first)
		keptWorld := ownWorld(room())
		list := draw.rightTells(30, 3)
		kept := slices.Clone(list)
		impl.JudgeWorld(w, list)
		impl.JudgeFrames(w.Cfg.Plan, w.Frames)
		if !sameWorld(room(), keptWorld) || !slices.Equal(list, kept) {
			t.Fatal(name, "is written into")
		}
	}
}

// P23: one list may be judged by several at once, and each tells what it tells alone; nobody is left taking.
func TestOneListJudgedBySeveralAtOnce(t *testing.T) {
	before := runtime.NumGoroutine()
	draw := &lottery{state: 209}
	lists := [][]impl.Told{draw.rightTells(impl.MaxTold, 8), draw.tells(60, 2, 9), tells(tellReadAt(0, 9), tellReadAt(0, 8)), fullTells(1), nil}
	w := town()
	var all sync.WaitGroup
	for range 8 {
		for _, list := range lists {
			want := [4]bool{wantJudgeReads(list), wantJudgeNonces(list), wantJudgeFuses(list), wantJudgeWorld(w, list)}
			of, tally := wantTells(list, 1), wantTally(list, impl.OpRead)
			all.Go(func() {
				for range 20 {
					if got := [4]bool{impl.JudgeReads(list), impl.JudgeNonces(list), impl.JudgeFuses(list), impl.JudgeWorld(w, list)}; got != want {
						t.Error(list, got)
					}
					if !slices.Equal(impl.TellsOf(list, 1), of) || !slices.Equal(impl.JudgeTally(list, impl.OpRead), tally) {
						t.Error(list)
					}
				}
			})
		}
	}
	all.Wait()
	checkNobodyLeft(t, before)
}

// P23: a list that is judged again is judged the same, whatever came first of looks and readings, and whatever was judged between.
func TestJudgementsAreTheSameEachTime(t *testing.T) {
	draw := &lottery{state: 210}
	right := draw.rightTells(impl.MaxTold, 2)
	places := donePlaces(right, impl.OpRead)
	fell := tellsWith(right, places[len(places)-1], func(t *impl.Told) { t.Value = -40; t.Now.Lo = -50 })
	for range 300 {
		if !impl.JudgeReads(right) || impl.JudgeReads(fell) || !impl.JudgeNonces(right) || !impl.JudgeFuses(right) || !impl.JudgeWorld(town(), right) || impl.JudgeWorld(town(), fell) {
			t.Fatal("judged otherwise")
		}
	}
	if !wantJudgeReads(right) || wantJudgeReads(fell) {
		t.Fatal("no such lists")
	}
}

// P23: at any arguments, however far out, each call tells what the document says.
func TestJudgementsAtAnyArguments(t *testing.T) {
	numbers := []int{math.MinInt, -far - 1, -far, -1, 0, 1, 2, 7, 8, 9, 14, 15, far, far + 1, math.MaxInt}
	var pool []impl.Told
	for i, x := range numbers {
		y, z := numbers[(i*4+3)%len(numbers)], numbers[(i*7+5)%len(numbers)]
		for _, kind := range []int{impl.OpBoot, impl.OpCrash, impl.OpAsk, impl.OpFuse, impl.OpRead, x} {
			pool = append(pool,
				impl.Told{Kind: kind, Node: x, Code: y, Value: z, Holds: true, Known: true, Was: iv(x, y), Now: iv(y, z)},
				impl.Told{Kind: kind, Node: 1, Value: x, Known: true, Was: iv(x, y), Now: iv(x, y)},
				impl.Told{Kind: kind, Node: y, Value: x}, impl.Told{Kind: kind, Node: 1, Code: impl.NodeUnsure, Value: x, Now: iv(z, y)})
		}
	}
	for _, a := range pool {
		for _, b := range pool {
			checkJudge(t, tells(a, b))
		}
		for _, x := range numbers {
			checkTells(t, pool[:impl.MaxTold], x, wantTells(pool[:impl.MaxTold], x)...)
			checkTally(t, tells(a, a), x, wantTally(tells(a, a), x)...)
			checkTells(t, pool, x)
			checkTally(t, pool, x)
		}
		checkJudged(t, impl.World{}, false, a)
	}
	for _, x := range numbers {
		for _, y := range numbers {
			p := planOf(x, y, sl(y, x))
			checkFrames(t, p, wantJudgeFrames(p, bus(fm(x, y, x, y, x))), fm(x, y, x, y, x))
			checkFrames(t, p, wantJudgeFrames(p, nil))
			checkFrames(t, planOf(0, 0, sl(1, 5)), wantJudgeFrames(planOf(0, 0, sl(1, 5)), bus(fm(1, 0, x, 0, y))), fm(1, 0, x, 0, y))
		}
	}
}
