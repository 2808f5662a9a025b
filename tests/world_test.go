package tests

import (
	"math"
	"slices"
	"strings"
	"testing"

	"loop.example/g00072/impl"
)

func checkWorldOk(t *testing.T, w impl.World, want bool) {
	t.Helper()
	if got := impl.WorldOk(w); got != want || wantWorldOk(w) != want {
		t.Fatalf("WorldOk(%v) is %v", w, got)
	}
}

func checkOpOk(t *testing.T, o impl.Op, want bool) {
	t.Helper()
	if got := impl.OpOk(o); got != want || wantOpOk(o) != want {
		t.Fatalf("OpOk(%v) is %v", o, got)
	}
}

func checkDo(t *testing.T, w impl.World, o impl.Op, want worldAnswer) {
	t.Helper()
	if got := doOp(w, o); !sameWorldAnswer(got, want) {
		t.Fatalf("%s of %v by %v:\ngot  %v\nwant %v", opName(o.Kind), w, o, got, want)
	}
	if own := wantWorldDo(w, o); !sameWorldAnswer(own, want) {
		t.Fatalf("%s of %v by %v: the document read again tells %v, and not %v", opName(o.Kind), w, o, own, want)
	}
}

// Done, with what is told beside the Kind and the Node, and the world then.
func checkDone(t *testing.T, w impl.World, o impl.Op, told impl.Told, change func(w *impl.World)) {
	t.Helper()
	told.Kind = o.Kind
	if o.Kind != impl.OpDeliver {
		told.Node = o.Node
	}
	checkDo(t, w, o, worldAnswer{worldWith(w, change), told, impl.WorldDone})
}

// Done as an op, but the node refuses it with that code, and nothing is changed.
func checkRefused(t *testing.T, w impl.World, o impl.Op, code int) {
	t.Helper()
	checkDone(t, w, o, impl.Told{Code: code}, leaves)
}

// Not done: the world as it was, and nothing told.
func checkNo(t *testing.T, w impl.World, o impl.Op) {
	t.Helper()
	checkDo(t, w, o, worldAnswer{w: w, code: impl.WorldNo})
}

func checkBadOp(t *testing.T, w impl.World, o impl.Op) {
	t.Helper()
	checkDo(t, w, o, worldAnswer{code: impl.WorldBad})
}

func checkWorldRun(t *testing.T, w impl.World, list []impl.Op, want courseAnswer) {
	t.Helper()
	if got := runOps(w, list); !sameCourse(got, want) {
		t.Fatalf("WorldRun of %v by %v:\ngot  %v\nwant %v", w, list, got, want)
	}
	if own := wantWorldRun(w, list); !sameCourse(own, want) {
		t.Fatalf("WorldRun of %v by %v: the document read again tells %v, and not %v", w, list, own, want)
	}
}

func checkWorldFalse(t *testing.T, w impl.World, want ...int) {
	t.Helper()
	if got := impl.WorldFalse(w); !slices.Equal(got, want) || !slices.Equal(wantFalse(w), want) {
		t.Fatalf("WorldFalse(%v) is %v, want %v", w, got, want)
	}
}

func checkClean(t *testing.T, w impl.World, want bool) {
	t.Helper()
	if got := impl.WorldClean(w); got != want || wantClean(w) != want {
		t.Fatalf("WorldClean(%v) is %v", w, got)
	}
}

func checkLooks(t *testing.T, w impl.World, want ...impl.Look) {
	t.Helper()
	if got := impl.WorldLooks(w); !slices.Equal(got, want) || !slices.Equal(wantLooks(w), want) {
		t.Fatalf("WorldLooks(%v) is %v, want %v", w, got, want)
	}
}

func checkLies(t *testing.T, w impl.World, want int) {
	t.Helper()
	if got := impl.WorldLies(w); got != want || wantLies(w) != want {
		t.Fatalf("WorldLies(%v) is %d, want %d", w, got, want)
	}
}

func leaves(*impl.World) {}

func townWith(change func(w *impl.World)) impl.World { return worldWith(town(), change) }

// The places of the town that an op of a node may name, and those of its liars.
func honestPlaces() []int { return []int{0, 1, 3, 4, 5, 7} }

func liarPlaces() []int { return []int{2, 6} }

func TestNumbersOfTheWorld(t *testing.T) {
	if impl.MaxPass != 1000000 || impl.MaxOps != 200 {
		t.Error(impl.MaxPass, impl.MaxOps)
	}
	kinds := []int{
		impl.OpPass, impl.OpBoot, impl.OpCrash, impl.OpFix, impl.OpAsk, impl.OpTick, impl.OpFuse, impl.OpRead, impl.OpSend,
		impl.OpDeliver, impl.OpDrop, impl.OpDouble, impl.OpMove, impl.OpForge,
	}
	for i, kind := range kinds {
		if kind != i+1 || opRows()[i].kind != kind || opsDone()[i].Kind != kind {
			t.Errorf("the kind at %d is %d", i, kind)
		}
	}
	if codes := [3]int{impl.WorldDone, impl.WorldBad, impl.WorldNo}; codes != [3]int{0, 1, 2} {
		t.Error(codes)
	}
}

func TestWorldOkAtItsLimits(t *testing.T) {
	for name, w := range rightWorlds() {
		if !impl.WorldOk(w) || !wantWorldOk(w) {
			t.Errorf("%s: it is not WorldOk", name)
		}
	}
	for name, w := range wrongWorlds() {
		if impl.WorldOk(w) || wantWorldOk(w) {
			t.Errorf("%s: it is WorldOk", name)
		}
	}
}

// Each part by itself is held against time, or against the node's own count, up to the limit that is met exactly.
func TestWorldOkHoldsPartsAgainstItsTime(t *testing.T) {
	for time, want := range map[int]bool{-1: false, 0: false, 112: false, 117: false, 118: true, 119: true, far: true, far + 1: false} {
		checkWorldOk(t, townWith(func(w *impl.World) { w.Time = time }), want)
	}
	for at, want := range map[int]bool{0: true, 117: true, 118: true, 119: false, far: false} {
		checkWorldOk(t, townWith(func(w *impl.World) { w.Net.List[2].At = at }), want)
	}
	for start, want := range map[int]bool{106: true, 117: true, 118: true, 119: false} {
		checkWorldOk(t, townWith(func(w *impl.World) { w.Frames[1].Start, w.Frames[1].End = start, start+far/2 }), want)
	}
	for place, come := range []int{26, 34, 0, 39, 20, 60, 20, 77} {
		for by, want := range map[int]bool{-1: false, 0: true, 1: true} {
			checkWorldOk(t, townWith(func(w *impl.World) { w.Counts[place] = come + by }), want)
		}
	}
}

// Every part of a world names places of its nodes, and of no others.
func TestWorldOkKnowsItsPlaces(t *testing.T) {
	for many := 1; many <= impl.MaxNodes; many++ {
		base := newWorld(still(), many, 0)
		checkWorldOk(t, base, true)
		for place := -1; place <= impl.MaxNodes; place++ {
			want := 0 <= place && place < many
			checkWorldOk(t, worldWith(base, func(w *impl.World) { w.Net = netOf(1, fl(0, place, 0, "", 0)) }), want)
			checkWorldOk(t, worldWith(base, func(w *impl.World) { w.Net = netOf(1, fl(0, 0, place, "", 0)) }), want)
			checkWorldOk(t, worldWith(base, func(w *impl.World) { w.Frames = bus(fm(place, 0, 0, 0, 1)) }), want)
		}
	}
}

func TestNewWorld(t *testing.T) {
	for many := range impl.MaxNodes + 3 {
		for lies := range many + 1 {
			liars := liarsOf(many, lies)
			w, ok := impl.NewWorld(still(), liars)
			if ok != (1 <= many && many <= impl.MaxNodes) || ok != impl.WorldOk(w) {
				t.Fatal(many, lies, ok, w)
			}
			if !ok {
				if !sameWorld(w, impl.World{}) {
					t.Fatal(many, w)
				}
				continue
			}
			want := impl.World{Cfg: still(), Liars: liars, Counts: make([]int, many)}
			for i := range many {
				want.Nodes = append(want.Nodes, impl.Node{Id: i, Sent: -1})
			}
			if !sameWorld(w, want) || impl.WorldLies(w) != lies {
				t.Fatal(many, lies, w)
			}
		}
	}
	if w, ok := impl.NewWorld(still(), make([]bool, 1<<20)); ok || !sameWorld(w, impl.World{}) {
		t.Error("too many", w)
	}
	if w, ok := impl.NewWorld(still(), nil); ok || !sameWorld(w, impl.World{}) {
		t.Error("none", w)
	}
	for name, c := range wrongCfgs() {
		if w, ok := impl.NewWorld(c, bools(false, true)); ok || !sameWorld(w, impl.World{}) {
			t.Error(name, w)
		}
	}
	// As many liars as there are nodes, and more than the settings bear, are right all the same.
	if w, ok := impl.NewWorld(still(), bools(true, true)); !ok || impl.WorldLies(w) != 2 {
		t.Error(w, ok)
	}
}

func TestOpOkAtItsLimits(t *testing.T) {
	for _, o := range rightOps() {
		checkOpOk(t, o, true)
	}
	for name, o := range wrongOps() {
		if impl.OpOk(o) || wantOpOk(o) {
			t.Errorf("%s: it is OpOk", name)
		}
	}
}

// Each field of each kind by itself, through and past its limits.
func TestOpOkFieldByField(t *testing.T) {
	edges := func(most int) map[int]bool {
		if most == unnamed {
			return map[int]bool{math.MinInt: false, -1: false, 0: true, 1: false, math.MaxInt: false}
		}
		return map[int]bool{math.MinInt: false, -1: false, 0: true, 1: true, most - 1: true, most: true, most + 1: false, math.MaxInt: false}
	}
	for _, row := range opRows() {
		for n, want := range edges(row.a) {
			checkOpOk(t, impl.Op{Kind: row.kind, A: n, To: max(row.to, 0)}, want)
		}
		for n, want := range edges(row.b) {
			checkOpOk(t, impl.Op{Kind: row.kind, B: n, To: max(row.to, 0)}, want)
		}
		for n, want := range edges(row.node) {
			to := 0
			if row.to != unnamed && n == 0 {
				to = 1
			}
			checkOpOk(t, impl.Op{Kind: row.kind, Node: n, To: to}, want)
		}
		for n, want := range edges(row.to) {
			node := 0
			if row.to != unnamed && n == 0 {
				node = 1
			}
			checkOpOk(t, impl.Op{Kind: row.kind, Node: node, To: n}, want)
		}
		for n := range 3 + max(row.text, 0) {
			checkOpOk(t, impl.Op{Kind: row.kind, To: max(row.to, 0), Text: strings.Repeat("\x00", n)}, n <= max(row.text, 0))
		}
		for n := range 3 + max(row.list, 0) {
			checkOpOk(t, impl.Op{Kind: row.kind, To: max(row.to, 0), List: make([]int, n)}, n <= max(row.list, 0))
		}
	}
	for n, want := range map[int]bool{-impl.MaxPass - 1: false, -impl.MaxPass: true, -1: true, impl.MaxPass: true, impl.MaxPass + 1: false} {
		checkOpOk(t, opPass(0, 0, n), want)
		checkOpOk(t, opPass(0, n), want)
	}
	for node := range impl.MaxNodes {
		for to := range impl.MaxNodes {
			checkOpOk(t, opAsk(node, to), node != to)
			checkOpOk(t, opForge(node, to, "x"), node != to)
		}
	}
}

// What is bad comes ahead of all else, and nothing is told of it.
func TestWhatIsBadIsNotDone(t *testing.T) {
	for _, w := range wrongWorlds() {
		for _, o := range opsDone() {
			checkBadOp(t, w, o)
		}
		checkBadOp(t, w, impl.Op{})
	}
	// Also an op that would be refused by its node, if it were one.
	for _, o := range wrongOps() {
		checkBadOp(t, town(), o)
		checkBadOp(t, newWorld(still(), 1, 1), o)
	}
}

// An op at a node that is not there, by or to it, is not done; so is one at a liar, but for a forgery, which is done by a liar alone.
func TestWhoMayDoWhat(t *testing.T) {
	for many := 1; many <= impl.MaxNodes; many++ {
		honest, lying := newWorld(still(), many, 0), newWorld(still(), many, many)
		for node := range impl.MaxNodes {
			for _, kind := range []int{impl.OpBoot, impl.OpCrash, impl.OpTick, impl.OpFuse, impl.OpRead} {
				checkNo(t, lying, opOf(kind, node))
				if node >= many {
					checkNo(t, honest, opOf(kind, node))
				} else if got := doOp(honest, opOf(kind, node)); got.code != impl.WorldDone {
					t.Fatal(opName(kind), node, got)
				}
			}
			for _, o := range []impl.Op{opFix(node, 1, 1), opSend(node, 1, "x")} {
				checkNo(t, lying, o)
				if node >= many {
					checkNo(t, honest, o)
				} else if got := doOp(honest, o); got.code != impl.WorldDone || got.told.Code != impl.NodeOff {
					t.Fatal(o, got)
				}
			}
			for to := range impl.MaxNodes {
				if to == node {
					continue
				}
				there := node < many && to < many
				checkNo(t, lying, opAsk(node, to))
				checkNo(t, honest, opForge(node, to, "x"))
				if !there {
					checkNo(t, honest, opAsk(node, to))
					checkNo(t, lying, opForge(node, to, "x"))
					continue
				}
				if got := doOp(honest, opAsk(node, to)); got.code != impl.WorldDone || got.told.Code != impl.NodeOff {
					t.Fatal(node, to, got)
				}
				if got := doOp(lying, opForge(node, to, "x")); got.code != impl.WorldDone || got.told != (impl.Told{Kind: impl.OpForge, Node: node}) {
					t.Fatal(node, to, got)
				}
			}
		}
	}
}

// In the town a liar is refused whether it is up or down, and asked, delivered to and moved in time as the others are.
func TestLiarsOfTheTown(t *testing.T) {
	for _, liar := range liarPlaces() {
		for _, kind := range []int{impl.OpBoot, impl.OpCrash, impl.OpTick, impl.OpFuse, impl.OpRead} {
			checkNo(t, town(), opOf(kind, liar))
		}
		checkNo(t, town(), opFix(liar, 0, 0))
		checkNo(t, town(), opAsk(liar, 0))
		checkNo(t, town(), opSend(liar, 2, ""))
		for _, node := range honestPlaces() {
			checkNo(t, town(), opForge(node, liar, "x"))
			checkDone(t, town(), opForge(liar, node, "x"), impl.Told{}, func(w *impl.World) {
				w.Net = netOf(21, append(w.Net.List, fl(20, liar, node, "x", 118))...)
			})
		}
		checkDone(t, town(), opAsk(0, liar), impl.Told{Value: 3009}, func(w *impl.World) {
			w.Nodes[0].Table = tableOf(3, 10, append(w.Nodes[0].Table.Asks, ak(3009, liar, 30, 1))...)
			w.Net = netOf(21, append(w.Net.List, fl(20, 0, liar, packed(probe(0, liar, 3009)), 118))...)
		})
	}
	// One liar may lie to the other.
	checkDone(t, town(), opForge(2, 6, ""), impl.Told{}, func(w *impl.World) { w.Net = netOf(21, append(w.Net.List, fl(20, 2, 6, "", 118))...) })
}

func TestTimePasses(t *testing.T) {
	by := func(a int, counts ...int) func(w *impl.World) {
		return func(w *impl.World) {
			w.Time += a
			for i := range w.Counts {
				w.Counts[i] += counts[i]
			}
		}
	}
	// Without drift all count alike, whatever they would like to.
	for _, a := range []int{0, 1, 7, impl.MaxPass} {
		same := slices.Repeat([]int{a}, 8)
		checkDone(t, town(), opPass(a), impl.Told{}, by(a, same...))
		checkDone(t, town(), opPass(a, 1, -1, impl.MaxPass, -impl.MaxPass, 0, 9, 9, 9), impl.Told{}, by(a, same...))
	}
	// By a drift of a half 9 may be counted as 5 to 13; liars count, too.
	w := townWith(func(w *impl.World) { w.Cfg.Drift = dr(1, 2) })
	checkDone(t, w, opPass(9), impl.Told{}, by(9, 9, 9, 9, 9, 9, 9, 9, 9))
	checkDone(t, w, opPass(9, -5, -4, -3, 0, 3, 4, 5, impl.MaxPass), impl.Told{}, by(9, 5, 5, 6, 9, 12, 13, 13, 13))
	// Who stands not in the list counts what passes.
	checkDone(t, w, opPass(9, -9, 2, -impl.MaxPass), impl.Told{}, by(9, 5, 11, 5, 9, 9, 9, 9, 9))
	checkDone(t, w, opPass(0, -9, 2, impl.MaxPass), impl.Told{}, by(0, 0, 0, 0, 0, 0, 0, 0, 0))
	checkDone(t, w, opPass(impl.MaxPass, impl.MaxPass, -impl.MaxPass), impl.Told{}, by(impl.MaxPass, 1500000, 500000, 1000000, 1000000, 1000000, 1000000, 1000000, 1000000))
	// A list that is longer than there are nodes.
	few := worldWith(newWorld(drifting(dr(1, 2)), 2, 1), func(w *impl.World) { w.Time = 5 })
	checkDone(t, few, opPass(9, 1, -1, 5, 5, 5, 5, 5, -5), impl.Told{}, by(9, 10, 8))
}

// Up to the last time and the last count; one beyond for one node alone, a liar or not, and nothing passes for any.
func TestTimePassesToItsEnd(t *testing.T) {
	late := func(before int) impl.World { return townWith(func(w *impl.World) { w.Time = far - before }) }
	checkNo(t, late(6), opPass(7))
	checkNo(t, late(0), opPass(1))
	for _, before := range []int{7, 8} {
		if got := doOp(late(before), opPass(7)); got.code != impl.WorldDone || got.w.Time != far-before+7 {
			t.Fatal(got)
		}
	}
	checkDone(t, late(0), opPass(0, 5, 5), impl.Told{}, leaves)
	for place := range impl.MaxNodes {
		counted := func(before int) impl.World { return townWith(func(w *impl.World) { w.Counts[place] = far - before }) }
		checkNo(t, counted(6), opPass(7))
		if got := doOp(counted(7), opPass(7)); got.code != impl.WorldDone || got.w.Counts[place] != far {
			t.Fatal(got)
		}
		// It is what is counted that has to fit, and not what passes.
		fast := worldWith(counted(8), func(w *impl.World) { w.Cfg.Drift = dr(1, 2) })
		list := make([]int, impl.MaxNodes)
		list[place] = 2
		checkNo(t, fast, opPass(7, list...))
		list[place] = -2
		fast.Counts[place] = far - 5
		if got := doOp(fast, opPass(7, list...)); got.code != impl.WorldDone || got.w.Counts[place] != far {
			t.Fatal(got)
		}
	}
}

func TestBootsAndCrashes(t *testing.T) {
	checkDone(t, town(), opOf(impl.OpBoot, 4), impl.Told{}, func(w *impl.World) {
		w.Nodes[4] = impl.Node{Id: 4, Life: lf(inCold, 4, 25), Table: tableOf(4, 0), Sent: 25}
	})
	for _, place := range []int{0, 1, 3, 5, 7} {
		checkRefused(t, town(), opOf(impl.OpBoot, place), impl.NodeNot)
		checkDone(t, town(), opOf(impl.OpCrash, place), impl.Told{}, func(w *impl.World) {
			w.Nodes[place] = impl.Node{Id: place, Life: lf(inDown, 3, w.Counts[place]), Table: tableOf(3, 0), Sent: -1}
		})
	}
	checkRefused(t, town(), opOf(impl.OpCrash, 4), impl.NodeOff)
	spent := townWith(func(w *impl.World) { w.Nodes[4].Life.Epoch, w.Nodes[4].Table.Epoch = impl.MaxEpoch, impl.MaxEpoch })
	checkRefused(t, spent, opOf(impl.OpBoot, 4), impl.NodeSpent)
}

// The interval is told around true time; at its end there is none.
func TestFixes(t *testing.T) {
	fixed := func(place, since, lo, hi int) func(w *impl.World) {
		return func(w *impl.World) {
			n := &w.Nodes[place]
			n.Life, n.Local = lf(inSync, 3, since), loc(lo, hi, w.Counts[place])
		}
	}
	checkDone(t, town(), opFix(3, 5, 9), impl.Told{}, fixed(3, 39, 113, 127))
	checkDone(t, town(), opFix(3, 0, 0), impl.Told{}, fixed(3, 39, 118, 118))
	checkDone(t, town(), opFix(3, 0, impl.MaxPass), impl.Told{}, fixed(3, 39, 118, 118+impl.MaxPass))
	checkDone(t, town(), opFix(3, impl.MaxPass, 0), impl.Told{}, fixed(3, 39, 118-impl.MaxPass, 118))
	checkDone(t, town(), opFix(5, 5, 9), impl.Told{}, fixed(5, 62, 113, 127))
	checkDone(t, town(), opFix(1, 5, 9), impl.Told{}, fixed(1, 20, 116, 119))
	checkRefused(t, town(), opFix(4, 5, 9), impl.NodeOff)
	// A node that is false is apart from what is true.
	wrong := townWith(func(w *impl.World) { w.Nodes[1].Local = loc(0, 3, 34) })
	checkRefused(t, wrong, opFix(1, 107, 5), impl.NodeApart)
	checkDone(t, wrong, opFix(1, 108, 5), impl.Told{}, fixed(1, 20, 10, 10))
	over := townWith(func(w *impl.World) { w.Nodes[1].Local = loc(far-9, far-6, 34) })
	checkRefused(t, over, opFix(1, 5, 9), impl.NodeOver)
	// Beyond the end of time there is no interval, also for who is down.
	end := townWith(func(w *impl.World) { w.Time = far - 9 })
	checkDone(t, end, opFix(3, 4, 9), impl.Told{}, fixed(3, 39, far-13, far))
	checkNo(t, end, opFix(3, 4, 10))
	checkNo(t, end, opFix(4, 4, 10))
	checkNo(t, end, opFix(3, 0, impl.MaxPass))
	checkRefused(t, end, opFix(4, 4, 9), impl.NodeOff)
}

func TestAsks(t *testing.T) {
	for _, to := range []int{0, 1, 2, 4, 5, 6, 7} {
		checkDone(t, town(), opAsk(3, to), impl.Told{Value: 3003}, func(w *impl.World) {
			w.Nodes[3].Table = tableOf(3, 4, append(w.Nodes[3].Table.Asks, ak(3003, to, 39, 1))...)
			w.Net = netOf(21, append(w.Net.List, fl(20, 3, to, packed(probe(3, to, 3003)), 118))...)
		})
	}
	checkRefused(t, town(), opAsk(4, 0), impl.NodeOff)
	full := townWith(func(w *impl.World) { w.Nodes[0].Table = otherAsks(impl.MaxAsks); w.Counts[0] = 500 })
	checkRefused(t, full, opAsk(0, 3), impl.NodeFull)
	spent := townWith(func(w *impl.World) { w.Nodes[0].Table.Used = impl.NoncesEach })
	checkRefused(t, spent, opAsk(0, 3), impl.NodeSpent)
	// Where there is no room the probe is lost; the node has asked all the same.
	for _, crowded := range crowdedNets() {
		w := townWith(func(w *impl.World) { w.Net, w.Time = crowded, 1000 })
		checkDone(t, w, opAsk(3, 1), impl.Told{Value: 3003}, func(w *impl.World) {
			w.Nodes[3].Table = tableOf(3, 4, append(w.Nodes[3].Table.Asks, ak(3003, 1, 39, 1))...)
		})
	}
}

// Nets into which nothing more goes.
func crowdedNets() []impl.Net {
	spent := netOf(impl.MaxFlightId, fl(5, 3, 1, "x", 7))
	return []impl.Net{netWith(impl.MaxFlights), spent, netOf(impl.MaxFlightId)}
}

// Probes go out in order, as far as there is room; what is known ages.
func TestTicks(t *testing.T) {
	checkDone(t, town(), opOf(impl.OpTick, 0), impl.Told{}, leaves)
	checkRefused(t, town(), opOf(impl.OpTick, 4), impl.NodeOff)
	// At 36 all three asks of node 0 are late, and the second was a last try.
	late := townWith(func(w *impl.World) { w.Counts[0] = 36 })
	again := func(w *impl.World) { w.Nodes[0].Table = tableOf(3, 11, ak(3009, 1, 36, 2), ak(3010, 1, 36, 4)) }
	first, second := fl(20, 0, 1, packed(probe(0, 1, 3009)), 118), fl(21, 0, 1, packed(probe(0, 1, 3010)), 118)
	checkDone(t, late, opOf(impl.OpTick, 0), impl.Told{}, func(w *impl.World) {
		again(w)
		w.Net = netOf(22, append(w.Net.List, first, second)...)
	})
	// With room for one of them the other is lost.
	almost := worldWith(late, func(w *impl.World) { w.Net, w.Time = netWith(impl.MaxFlights-1), 1000 })
	checkDone(t, almost, opOf(impl.OpTick, 0), impl.Told{}, func(w *impl.World) {
		again(w)
		next := w.Net.Next
		w.Net = netOf(next+1, append(w.Net.List, fl(next, 0, 1, packed(probe(0, 1, 3009)), 1000))...)
	})
	for _, crowded := range crowdedNets() {
		w := worldWith(late, func(w *impl.World) { w.Net, w.Time = crowded, 1000 })
		checkDone(t, w, opOf(impl.OpTick, 0), impl.Told{}, again)
	}
	wide := townWith(func(w *impl.World) { w.Cfg.Keep = 0 })
	checkDone(t, wide, opOf(impl.OpTick, 1), impl.Told{}, func(w *impl.World) { w.Nodes[1].Life = lf(inHold, 3, 41) })
	lost := townWith(func(w *impl.World) { w.Nodes[1].Local = loc(far-9, far-6, 34) })
	checkDone(t, lost, opOf(impl.OpTick, 1), impl.Told{}, func(w *impl.World) {
		w.Nodes[1].Life, w.Nodes[1].Local = lf(inCold, 3, 41), impl.Local{}
	})
}

// What it knew ahead and behind is told with every code.
func TestFusions(t *testing.T) {
	fuse := opOf(impl.OpFuse, 0)
	// At 30 node 0's sources are 108 to 116, 99 to 104 and 106 to 112, of which two may lie.
	apart := impl.Told{Code: impl.NodeApart, Known: true, Was: iv(118, 119), Now: iv(118, 119)}
	checkDone(t, town(), fuse, apart, leaves)
	wide := townWith(func(w *impl.World) { w.Nodes[0].Local = loc(100, 112, 20) })
	checkDone(t, wide, fuse, impl.Told{Known: true, Was: iv(110, 122), Now: iv(110, 116)}, func(w *impl.World) {
		w.Nodes[0].Local = loc(110, 116, 30)
	})
	cold := worldWith(wide, func(w *impl.World) { w.Nodes[0].Life.Mode, w.Nodes[0].Local = inCold, impl.Local{} })
	checkDone(t, cold, fuse, impl.Told{Now: iv(99, 116)}, func(w *impl.World) {
		n := &w.Nodes[0]
		n.Life, n.Local, n.Peers[1].Suspect = lf(inSync, 3, 30), loc(99, 116, 30), false
	})
	few := worldWith(wide, func(w *impl.World) { w.Cfg.Least = 4 })
	checkDone(t, few, fuse, impl.Told{Code: impl.NodeFew, Known: true, Was: iv(110, 122), Now: iv(110, 122)}, leaves)
	none := worldWith(wide, func(w *impl.World) { w.Cfg.Lie = 0 })
	checkDone(t, none, fuse, impl.Told{Code: impl.NodeNone, Known: true, Was: iv(110, 122), Now: iv(110, 122)}, leaves)
	checkRefused(t, worldWith(cold, func(w *impl.World) { w.Cfg.Lie = 0 }), fuse, impl.NodeNone)
	over := townWith(func(w *impl.World) { w.Nodes[0].Local = loc(far-12, far-9, 20) })
	checkRefused(t, over, fuse, impl.NodeOver)
	checkRefused(t, town(), opOf(impl.OpFuse, 3), impl.NodeFew)
	checkRefused(t, town(), opOf(impl.OpFuse, 4), impl.NodeOff)
}

func TestReads(t *testing.T) {
	reads := func(place, value int) func(w *impl.World) {
		return func(w *impl.World) { w.Nodes[place].App = had(value) }
	}
	checkDone(t, town(), opOf(impl.OpRead, 0), impl.Told{Value: 118, Known: true, Now: iv(118, 119)}, reads(0, 118))
	checkDone(t, town(), opOf(impl.OpRead, 1), impl.Told{Value: 117, Known: true, Now: iv(116, 119)}, reads(1, 117))
	checkDone(t, town(), opOf(impl.OpRead, 7), impl.Told{Value: 118, Known: true, Now: iv(118, 118)}, reads(7, 118))
	// Node 5 has told 140 already, and knows that it is 102 to 132.
	checkDone(t, town(), opOf(impl.OpRead, 5), impl.Told{Value: 140, Holds: true, Known: true, Now: iv(102, 132)}, leaves)
	checkRefused(t, town(), opOf(impl.OpRead, 3), impl.NodeUnsure)
	checkRefused(t, town(), opOf(impl.OpRead, 4), impl.NodeOff)
	// What is not known holds; what can't be carried on is not known either.
	cold := townWith(func(w *impl.World) { w.Nodes[3].App = had(99) })
	checkDone(t, cold, opOf(impl.OpRead, 3), impl.Told{Value: 99, Holds: true}, leaves)
	over := townWith(func(w *impl.World) { w.Nodes[0].Local = loc(far-12, far-9, 20) })
	checkDone(t, over, opOf(impl.OpRead, 0), impl.Told{Value: 103, Holds: true}, leaves)
	checkRefused(t, worldWith(over, func(w *impl.World) { w.Nodes[0].App = impl.App{} }), opOf(impl.OpRead, 0), impl.NodeUnsure)
}

// The frame stands on the bus, and each other node that is up and no liar has heard it.
func TestSends(t *testing.T) {
	sent := func(f impl.Frame) func(w *impl.World) {
		return func(w *impl.World) {
			w.Nodes[f.From].Sent = w.Counts[f.From]
			w.Frames = append(w.Frames, f)
			for _, place := range []int{0, 1, 3, 5, 7} {
				if n := &w.Nodes[place]; place != f.From {
					n.Heard = wantHear(n.Heard, w.Cfg.Plan, frame(f.From, f.Slot, f.Body), w.Counts[place]).list
				}
			}
		}
	}
	body := func(f impl.Frame, text string) impl.Frame {
		f.Body = text
		return f
	}
	for _, text := range []string{"", "a", "\x00\xff", strings.Repeat("x", impl.MaxBody)} {
		for _, a := range []int{0, 2, 9, impl.MaxPass} {
			checkDone(t, town(), opSend(0, a, text), impl.Told{Value: 9}, sent(body(fm(0, 0, 9, 118, 120), text)))
		}
	}
	got := doOp(town(), opSend(0, 2, "x"))
	for place, at := range map[int]int{1: 41, 3: 39, 5: 62, 7: 77} {
		if h := got.w.Nodes[place].Heard; len(h) == 0 || h[0] != hd(0, at) {
			t.Fatal(place, h)
		}
	}
	for _, place := range []int{2, 4, 6} {
		if h := got.w.Nodes[place].Heard; len(h) != 0 {
			t.Fatal(place, h)
		}
	}
	// Node 1 in its slot of round 9, from 125 on: node 0 hears it, too.
	later := townWith(func(w *impl.World) { w.Time, w.Counts[1], w.Nodes[1].Local = 125, 48, loc(125, 126, 48) })
	checkDone(t, later, opSend(1, 0, "b"), impl.Told{Value: 9}, sent(body(fm(1, 1, 9, 125, 127), "b")))
	// By a drift of a half 2 counts take 2 to 4.
	drifted := townWith(func(w *impl.World) { w.Cfg.Drift, w.Nodes[0].Local = dr(1, 2), loc(118, 118, 30) })
	for a, long := range map[int]int{0: 2, 1: 2, 2: 2, 3: 3, 4: 4, 5: 4, impl.MaxPass: 4} {
		checkDone(t, drifted, opSend(0, a, "c"), impl.Told{Value: 9}, sent(body(fm(0, 0, 9, 118, 118+long), "c")))
	}
	// A frame of one count is at least 1 long.
	drifted.Cfg.Long = 1
	for a, long := range map[int]int{0: 1, 1: 1, 2: 2, 3: 2} {
		checkDone(t, drifted, opSend(0, a, "c"), impl.Told{Value: 9}, sent(body(fm(0, 0, 9, 118, 118+long), "c")))
	}
}

func TestSendsThatTheNodeRefuses(t *testing.T) {
	for place, code := range map[int]int{1: impl.NodeUnsure, 3: impl.NodeUnsure, 4: impl.NodeOff, 5: impl.NodeUnsure, 7: impl.NodeUnsure} {
		checkRefused(t, town(), opSend(place, 2, "x"), code)
	}
	busy := townWith(func(w *impl.World) { w.Nodes[0].Sent = 29 })
	checkRefused(t, busy, opSend(0, 2, "x"), impl.NodeBusy)
}

// A full bus refuses every frame, also one that the node would not have sent; with room for one it goes.
func TestSendsOnAFullBus(t *testing.T) {
	full := townWith(func(w *impl.World) { w.Frames = slices.Repeat(bus(fm(0, 0, 8, 106, 108)), impl.MaxFrames) })
	for _, place := range honestPlaces() {
		checkNo(t, full, opSend(place, 2, "x"))
	}
	almost := worldWith(full, func(w *impl.World) { w.Frames = w.Frames[1:] })
	got := doOp(almost, opSend(0, 2, "x"))
	if got.code != impl.WorldDone || len(got.w.Frames) != impl.MaxFrames || got.told.Value != 9 || !sameWorldAnswer(got, wantWorldDo(almost, opSend(0, 2, "x"))) {
		t.Fatal(got)
	}
	checkRefused(t, almost, opSend(3, 2, "x"), impl.NodeUnsure)
}

// A node that is false may send at the end of time, where no frame ends any more: then it has not sent, and nobody has heard it.
func TestSendsThatDoNotFitTheBus(t *testing.T) {
	for before := range 4 {
		w := townWith(func(w *impl.World) { w.Time = far - before })
		if before < 2 {
			checkNo(t, w, opSend(0, 2, "x"))
			continue
		}
		got := doOp(w, opSend(0, 2, "x"))
		if got.code != impl.WorldDone || got.w.Frames[2].End != far-before+2 || got.w.Nodes[0].Sent != 30 || len(got.w.Nodes[7].Heard) != 1 {
			t.Fatal(before, got)
		}
	}
}

func TestDeliveries(t *testing.T) {
	without := func(i int) impl.Net {
		return netOf(20, slices.Delete(town().Net.List, i, i+1)...)
	}
	deliver := func(i int) impl.Op { return opAt(impl.OpDeliver, i) }
	// A probe is answered, and the answer is posted behind the others.
	checkDone(t, town(), deliver(0), impl.Told{}, func(w *impl.World) {
		net := without(0)
		w.Net = netOf(21, append(net.List, fl(20, 0, 3, packed(reply(0, 3, 3001, iv(118, 119))), 118))...)
	})
	checkDone(t, town(), deliver(1), impl.Told{}, func(w *impl.World) {
		w.Net = without(1)
		n := &w.Nodes[0]
		n.Table.Asks, n.Peers[0] = n.Table.Asks[1:], pe(1, 105, 116, 30)
	})
	checkDone(t, town(), deliver(2), impl.Told{Code: impl.NodeNonce}, func(w *impl.World) { w.Net = without(2) })
	// To a liar nothing happens, though it is up and knows something; nor to who is down.
	checkDone(t, town(), deliver(3), impl.Told{Node: 6, Code: impl.NodeOff}, func(w *impl.World) { w.Net = without(3) })
	checkDone(t, town(), deliver(4), impl.Told{Node: 4, Code: impl.NodeOff}, func(w *impl.World) { w.Net = without(4) })
	checkDone(t, town(), deliver(5), impl.Told{Node: 5, Code: impl.NodeWire}, func(w *impl.World) { w.Net = without(5) })
	for i := 6; i < impl.MaxFlights; i++ {
		checkNo(t, town(), deliver(i))
	}
}

// One flight to node 0 from a node that really sent it.
func letterTo0(from int, bytes string) impl.World {
	return townWith(func(w *impl.World) { w.Net = netOf(3, fl(1, from, 0, bytes, 100)) })
}

// What comes of a flight hangs on who really sent it, and not on whom it names.
func TestDeliveriesByWhomTheyCome(t *testing.T) {
	deliver := opAt(impl.OpDeliver, 0)
	gone := func(w *impl.World) { w.Net = netOf(3) }
	for from := range impl.MaxNodes {
		answer := packed(reply(1, 0, 3001, iv(105, 107)))
		if from != 1 {
			checkDone(t, letterTo0(from, answer), deliver, impl.Told{Code: impl.NodeFrom}, gone)
		}
		checkDone(t, letterTo0(from, packed(probe(0, 3, 7))), deliver, impl.Told{Code: impl.NodeFrom}, gone)
		checkDone(t, letterTo0(from, packed(probe(3, 4, 7))), deliver, impl.Told{Code: impl.NodeFrom}, gone)
		checkDone(t, letterTo0(from, ""), deliver, impl.Told{Code: impl.NodeWire}, gone)
		// To a liar that asks it answers as to anybody.
		if from != 0 {
			checkDone(t, letterTo0(from, packed(probe(from, 0, 7))), deliver, impl.Told{}, func(w *impl.World) {
				w.Net = netOf(4, fl(3, 0, from, packed(reply(0, from, 7, iv(118, 119))), 118))
			})
		}
	}
	checkDone(t, letterTo0(1, packed(frame(1, 1, "x"))), deliver, impl.Told{}, func(w *impl.World) {
		gone(w)
		w.Nodes[0].Heard[1] = hd(1, 30)
	})
	checkDone(t, letterTo0(3, packed(frame(3, 1, "x"))), deliver, impl.Told{Code: impl.NodeNot}, gone)
	// An answer that is over is used up.
	checkDone(t, letterTo0(1, packed(reply(1, 0, 3001, iv(105, far)))), deliver, impl.Told{Code: impl.NodeOver}, func(w *impl.World) {
		gone(w)
		w.Nodes[0].Table.Asks = w.Nodes[0].Table.Asks[1:]
	})
	unsure := worldWith(letterTo0(3, packed(probe(3, 0, 7))), func(w *impl.World) { w.Nodes[0].Local = loc(far-12, far-9, 20) })
	checkDone(t, unsure, deliver, impl.Told{Code: impl.NodeUnsure}, gone)
}

// The flight that is taken makes room for the answer; where no Id is left the answer is lost.
func TestDeliveriesOnAFullNet(t *testing.T) {
	ask := fl(1, 3, 0, packed(probe(3, 0, 7)), 100)
	answer := fl(60, 0, 3, packed(reply(0, 3, 7, iv(118, 119))), 118)
	full := townWith(func(w *impl.World) {
		w.Net = netOf(60, ask)
		for id := 2; id <= impl.MaxFlights; id++ {
			w.Net.List = append(w.Net.List, fl(id, 1, 7, "", 50))
		}
	})
	checkDone(t, full, opAt(impl.OpDeliver, 0), impl.Told{}, func(w *impl.World) {
		w.Net = netOf(61, append(w.Net.List[1:], answer)...)
	})
	spent := townWith(func(w *impl.World) { w.Net = netOf(impl.MaxFlightId, ask) })
	checkDone(t, spent, opAt(impl.OpDeliver, 0), impl.Told{}, func(w *impl.World) { w.Net = netOf(impl.MaxFlightId) })
}

func TestMailIsDroppedDoubledAndMoved(t *testing.T) {
	list := func() []impl.Flight { return town().Net.List }
	for i := range impl.MaxFlights {
		drop, double := opAt(impl.OpDrop, i), opAt(impl.OpDouble, i)
		if i >= 6 {
			checkNo(t, town(), drop)
			checkNo(t, town(), double)
		} else {
			checkDone(t, town(), drop, impl.Told{}, func(w *impl.World) { w.Net = netOf(20, slices.Delete(list(), i, i+1)...) })
			checkDone(t, town(), double, impl.Told{}, func(w *impl.World) {
				second := list()[i]
				second.Id = 20
				w.Net = netOf(21, append(list(), second)...)
			})
		}
		for to := range impl.MaxFlights {
			if i >= 6 || to >= 6 {
				checkNo(t, town(), opMove(i, to))
				continue
			}
			checkDone(t, town(), opMove(i, to), impl.Told{}, func(w *impl.World) {
				w.Net = netOf(20, slices.Insert(slices.Delete(list(), i, i+1), to, list()[i])...)
			})
		}
	}
	for _, crowded := range crowdedNets() {
		w := townWith(func(w *impl.World) { w.Net, w.Time = crowded, 1000 })
		checkNo(t, w, opAt(impl.OpDouble, 0))
	}
}

func TestForgeries(t *testing.T) {
	for _, text := range []string{"", "junk", packed(reply(1, 0, 3001, iv(1, 2))), strings.Repeat("\x00", impl.MaxBytes)} {
		checkDone(t, town(), opForge(2, 0, text), impl.Told{}, func(w *impl.World) {
			w.Net = netOf(21, append(w.Net.List, fl(20, 2, 0, text, 118))...)
		})
	}
	for _, crowded := range crowdedNets() {
		w := townWith(func(w *impl.World) { w.Net, w.Time = crowded, 1000 })
		checkNo(t, w, opForge(2, 0, "x"))
	}
}

// A run tells of each op, goes on past what is not done, and takes just so many.
func TestWorldRun(t *testing.T) {
	list := []impl.Op{opOf(impl.OpBoot, 4), opOf(impl.OpBoot, 2), opPass(5), {}, opAsk(4, 1), opOf(impl.OpTick, 4), opAt(impl.OpDeliver, 39)}
	want := courseAnswer{w: townWith(func(w *impl.World) {
		w.Time = 123
		for i := range w.Counts {
			w.Counts[i] += 5
		}
		w.Nodes[4] = impl.Node{Id: 4, Life: lf(inCold, 4, 25), Table: tableOf(4, 1, ak(4000, 1, 30, 1)), Sent: 25}
		w.Net = netOf(21, append(w.Net.List, fl(20, 4, 1, packed(probe(4, 1, 4000)), 123))...)
	})}
	want.told = []impl.Told{{Kind: impl.OpBoot, Node: 4}, {}, {Kind: impl.OpPass}, {}, {Kind: impl.OpAsk, Node: 4, Value: 4000}, {Kind: impl.OpTick, Node: 4}, {}}
	want.codes = []int{impl.WorldDone, impl.WorldNo, impl.WorldDone, impl.WorldBad, impl.WorldDone, impl.WorldDone, impl.WorldNo}
	checkWorldRun(t, town(), list, want)
	checkWorldRun(t, town(), nil, courseAnswer{w: town()})
	checkWorldRun(t, town(), []impl.Op{}, courseAnswer{w: town()})
}

func TestWorldRunTakesSoManyOps(t *testing.T) {
	for _, many := range []int{impl.MaxOps - 1, impl.MaxOps, impl.MaxOps + 1, 3 * impl.MaxOps} {
		got := runOps(town(), slices.Repeat([]impl.Op{opPass(1)}, many))
		if many > impl.MaxOps {
			checkWorldRun(t, town(), slices.Repeat([]impl.Op{opPass(1)}, many), courseAnswer{w: town()})
		} else if got.w.Time != 118+many || len(got.told) != many || len(got.codes) != many || got.w.Counts[7] != 77+many {
			t.Fatal(many, got)
		}
	}
	// Of what is no world nothing is run, and it is told as it was.
	for _, w := range wrongWorlds() {
		checkWorldRun(t, w, opsDone(), courseAnswer{w: w})
		checkWorldRun(t, w, nil, courseAnswer{w: w})
		checkWorldRun(t, w, slices.Repeat(opsDone(), 15), courseAnswer{w: w})
	}
}

func TestOfAWorldThatIsNoneNothingIsTold(t *testing.T) {
	for _, w := range wrongWorlds() {
		checkLies(t, w, -1)
		checkWorldFalse(t, w)
		checkClean(t, w, false)
		checkLooks(t, w)
	}
}

func TestWorldLies(t *testing.T) {
	checkLies(t, town(), 2)
	for many := 1; many <= impl.MaxNodes; many++ {
		for lies := range many + 1 {
			checkLies(t, newWorld(still(), many, lies), lies)
		}
	}
}

// Liars are never told; who knows nothing, or can't carry it on, is not false.
func TestWorldFalse(t *testing.T) {
	checkWorldFalse(t, town())
	checkWorldFalse(t, townWith(func(w *impl.World) { w.Liars[6] = false }), 6)
	for time, want := range map[int][]int{118: nil, 119: {7}, 120: {0, 1, 7}, 132: {0, 1, 7}, 133: {0, 1, 5, 7}, far: {0, 1, 5, 7}} {
		checkWorldFalse(t, townWith(func(w *impl.World) { w.Time = time }), want...)
	}
	over := townWith(func(w *impl.World) { w.Time, w.Nodes[0].Local = 120, loc(far-12, far-9, 20) })
	checkWorldFalse(t, over, 1, 7)
	all := townWith(func(w *impl.World) { w.Time, w.Liars = far, liarsOf(8, 8) })
	checkWorldFalse(t, all)
	// By its own count: what passes for it alone makes it false.
	checkWorldFalse(t, townWith(func(w *impl.World) { w.Counts[7]++ }), 7)
}

// What liars sent counts for nothing, whether it strays or is in a clash with another's frame.
func TestWorldClean(t *testing.T) {
	cleans := func(want bool, list ...impl.Frame) {
		t.Helper()
		checkClean(t, townWith(func(w *impl.World) { w.Frames = list }), want)
	}
	cleans(true)
	checkClean(t, town(), true)
	cleans(true, fm(0, 0, 8, 106, 111), fm(1, 1, 8, 113, 116))
	// Out of its slot, of another node's, of another slot or round, with an end too late.
	cleans(false, fm(0, 0, 8, 105, 108))
	cleans(false, fm(1, 0, 8, 106, 108))
	cleans(false, fm(0, 1, 8, 106, 108))
	cleans(false, fm(0, 0, 7, 106, 108))
	cleans(false, fm(0, 0, 8, 106, 112))
	cleans(false, fm(0, 0, 8, 106, 108), fm(3, 1, 8, 113, 115))
	// Two of one node at once, each in its slot.
	cleans(false, fm(0, 0, 8, 106, 108), fm(0, 0, 8, 107, 109))
	cleans(true, fm(0, 0, 8, 106, 108), fm(0, 0, 8, 108, 109))
	// Of liars.
	cleans(true, fm(2, 0, 8, 105, 108), fm(6, 9, 9, 106, 118))
	cleans(true, fm(0, 0, 8, 106, 108), fm(6, 0, 8, 107, 109))
	cleans(false, fm(0, 0, 8, 106, 108), fm(6, 0, 8, 107, 109), fm(0, 0, 8, 107, 110))
	cleans(false, fm(6, 0, 8, 105, 108), fm(7, 0, 8, 106, 108))
}

func TestWorldLooks(t *testing.T) {
	checkLooks(t, town(), look(118, 119), look(116, 119), blind(), blind(), blind(), look(102, 132), look(501, 502), look(118, 118))
	over := townWith(func(w *impl.World) { w.Nodes[0].Local = loc(far-12, far-9, 20) })
	checkLooks(t, over, blind(), look(116, 119), blind(), blind(), blind(), look(102, 132), look(501, 502), look(118, 118))
	for many := 1; many <= impl.MaxNodes; many++ {
		checkLooks(t, newWorld(still(), many, 1), slices.Repeat(looks(blind()), many)...)
	}
}

// An ask to a node that the world has not, which no op makes but a world may come with: its probe is posted as any other.
func TestProbesToNobody(t *testing.T) {
	w := worldWith(newWorld(still(), 2, 0), func(w *impl.World) {
		w.Nodes[0] = impl.Node{Life: lf(inCold, 3, 20), Table: tableOf(3, 1, ak(3000, 5, 20, 1)), Sent: -1}
		w.Counts[0] = 40
	})
	checkDone(t, w, opOf(impl.OpTick, 0), impl.Told{}, func(w *impl.World) {
		w.Nodes[0].Table = tableOf(3, 2, ak(3001, 5, 40, 2))
		w.Net = netOf(1, fl(0, 0, 5, packed(probe(0, 5, 3001)), 0))
	})
}
