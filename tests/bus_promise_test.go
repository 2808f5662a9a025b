package tests

import (
	"runtime"
	"slices"
	"strconv"
	"sync"
	"testing"
	"time"

	"loop.example/g00072/impl"
)

// A frame that lies in an occurrence of its owner's slot, and says so.
func (l *lottery) framesIn(p impl.Plan, x occurrence) impl.Frame {
	start := x.a.Lo + l.number(x.a.Hi-x.a.Lo)
	return fm(p.Slots[x.slot].Owner, x.slot, x.round, start, start+1+l.number(x.a.Hi-start))
}

// The same frame with one thing of it wrong: it reaches out of the occurrence, or it is another one's, or sent for another slot or round.
func (l *lottery) strayed(f impl.Frame, in impl.Ival) impl.Frame {
	switch l.number(6) {
	case 0:
		f.End = in.Hi + 1
	case 1:
		f.Start = in.Lo - 1
	case 2:
		f.From = (f.From + 1 + l.number(impl.MaxNodes-1)) % impl.MaxNodes
	case 3:
		f.Slot = (f.Slot + 1 + l.number(15)) % 16
	case 4:
		f.Round += 1 + l.number(9)
	default:
		f.Start, f.End = in.Lo-1, in.Lo
	}
	return f
}

type drawnFrame struct {
	f     impl.Frame
	stray bool
}

// So many frames for a plan, in order, of which it is known whether they stray.
func (l *lottery) busFor(p impl.Plan, n int, strays bool) (list []impl.Frame, places []int) {
	near := occurrencesOf(p)
	var all []drawnFrame
	for range n {
		if len(near) == 0 {
			break
		}
		x := near[l.number(len(near))]
		d := drawnFrame{f: l.framesIn(p, x)}
		// Most of the frames lie right, so that there is something to clash with.
		if strays && l.number(4) == 0 {
			wrong := l.strayed(d.f, x.a)
			if wantFrameOk(wrong) {
				d = drawnFrame{wrong, true}
			}
		}
		all = append(all, d)
	}
	slices.SortStableFunc(all, func(a, b drawnFrame) int { return byStart(a.f, b.f) })
	for i, d := range all {
		list = append(list, d.f)
		if d.stray {
			places = append(places, i)
		}
	}
	return list, places
}

// What a frame was sent for, and by whom.
func sentFor(f impl.Frame) [3]int { return [3]int{f.From, f.Slot, f.Round} }

// P15: frames that lie in occurrences of their owners' slots clash only where one node sent both, in one slot of one round.
func TestFramesInTheirOwnSlotsClashOnlyWithTheirOwn(t *testing.T) {
	draw := &lottery{state: 151}
	clashes, touching := 0, 0
	for _, p := range manyPlans(draw, 400) {
		list, _ := draw.busFor(p, 1+draw.number(impl.MaxFrames), false)
		checkStray(t, p, list)
		for _, c := range impl.BusClashes(list) {
			if sentFor(list[c.A]) != sentFor(list[c.B]) {
				t.Fatalf("%v: %v and %v clash", p, list[c.A], list[c.B])
			}
			clashes++
		}
		for i, f := range list {
			for _, g := range list[i+1:] {
				if f.End == g.Start && sentFor(f) != sentFor(g) {
					touching++
				}
			}
		}
	}
	if clashes < 1000 || touching < 100 {
		t.Fatal("too few", clashes, touching)
	}
}

// P15: the same of the frames of any bus that do not stray; and just those stray that were drawn so.
func TestJustTheStraysAreTold(t *testing.T) {
	draw := &lottery{state: 152}
	strays, foreign := 0, 0
	for _, p := range manyPlans(draw, 400) {
		list, places := draw.busFor(p, 1+draw.number(impl.MaxFrames), true)
		checkStray(t, p, list, places...)
		strays += len(places)
		for _, c := range impl.BusClashes(list) {
			if sentFor(list[c.A]) == sentFor(list[c.B]) {
				continue
			}
			if !slices.Contains(places, c.A) && !slices.Contains(places, c.B) {
				t.Fatalf("%v: %v and %v clash, and neither strays", p, list[c.A], list[c.B])
			}
			foreign++
		}
	}
	if strays < 1000 || foreign < 100 {
		t.Fatal("too few", strays, foreign)
	}
}

// P14 and P15: frames that the gate let go, whatever true time it was and however long they took, do not stray.
func TestFramesThatTheGateLetGoDoNotStray(t *testing.T) {
	draw := &lottery{state: 153}
	gone := 0
	for _, p := range manyPlans(draw, 200) {
		d := []impl.Drift{dr(0, 1), dr(1, 4), dr(1, 2), dr(1, 1000)}[draw.number(4)]
		var list []impl.Frame
		for _, x := range occurrencesOf(p) {
			owner, long := p.Slots[x.slot].Owner, 1+draw.number(max(1, (x.a.Hi-x.a.Lo)/2))
			now := iv(x.a.Lo, x.a.Lo+draw.number(max(1, (x.a.Hi-x.a.Lo)/3)))
			slot, round, code := impl.GateAsk(now, true, d, long, p, owner)
			if code != impl.GateGo || len(list) == impl.MaxFrames {
				continue
			}
			// At least 1, for no frame takes no time at all.
			takes, _ := impl.Between(d, long)
			least := max(1, takes.Lo)
			start := now.Lo + draw.number(now.Hi-now.Lo+1)
			list = append(list, fm(owner, slot, round, start, start+least+draw.number(takes.Hi-least+1)))
			gone++
		}
		slices.SortStableFunc(list, byStart)
		checkBusOk(t, list, true)
		checkStray(t, p, list)
		checkClashes(t, list)
	}
	if gone < 2000 {
		t.Fatal("too few", gone)
	}
}

// P15, of each time one by one: it is a time of load just if a frame is on, else it is in one quiet stretch; each of these is as long as it can be.
func checkTimeByTime(t *testing.T, list []impl.Frame, from, to int) {
	t.Helper()
	quiet := impl.BusQuiet(list, from, to)
	load := 0
	for at := from; at < to; at++ {
		in := 0
		for _, a := range quiet {
			if a.Lo <= at && at < a.Hi {
				in++
			}
		}
		if isOn(list, at) {
			load++
			in++
		}
		if in != 1 {
			t.Fatalf("%v, from %d to %d: %d is in %d of %v and the frames", list, from, to, at, in, quiet)
		}
	}
	if got := impl.BusLoad(list, from, to); got != load {
		t.Fatalf("%v, from %d to %d: the load is %d, and told as %d", list, from, to, load, got)
	}
	for i, a := range quiet {
		if a.Lo >= a.Hi || a.Lo < from || a.Hi > to || i > 0 && quiet[i-1].Hi >= a.Lo {
			t.Fatalf("%v, from %d to %d: %v", list, from, to, quiet)
		}
		if a.Lo > from && !isOn(list, a.Lo-1) || a.Hi < to && !isOn(list, a.Hi) {
			t.Fatalf("%v, from %d to %d: %v is not the longest stretch", list, from, to, a)
		}
	}
}

func TestLoadAndQuietTimeByTime(t *testing.T) {
	draw := &lottery{state: 154}
	for range 1500 {
		list := draw.smallBus()
		from := draw.number(140)
		checkTimeByTime(t, list, from, from+draw.number(140))
	}
	// Every span of one bus, also such as begin or end within a frame.
	list := bus(during(2, 5), during(4, 6), during(6, 7), during(9, 12), during(10, 11), during(15, 16))
	for from := range 20 {
		for to := from; to < 20; to++ {
			checkTimeByTime(t, list, from, to)
		}
	}
}

// P15: load and quiet times are the whole, however far it reaches; and a span is as much as its two parts.
func TestLoadAndQuietAreTheWhole(t *testing.T) {
	draw := &lottery{state: 155}
	parts := 0
	for n := range 3000 {
		list := draw.anyBus()
		if n%3 == 0 {
			list = draw.smallBus()
		}
		ends := timesOfBus(list)
		from, to := ends[draw.number(len(ends))], ends[draw.number(len(ends))]
		load := impl.BusLoad(list, from, to)
		if !wantSpan(from, to) {
			checkLoad(t, list, from, to, loaded(-1))
			continue
		}
		whole := load
		for _, a := range impl.BusQuiet(list, from, to) {
			whole += a.Hi - a.Lo
		}
		between := from + (to-from)/1000*draw.number(1000)
		if whole != to-from || load != impl.BusLoad(list, from, between)+impl.BusLoad(list, between, to) {
			t.Fatalf("%v, from %d by %d to %d: load and quiet times come to %d", list, from, between, to, whole)
		}
		parts++
	}
	if parts < 1000 {
		t.Fatal("too few", parts)
	}
}

// The load is no more than all frames are long, and just that where none clash.
func TestLoadAndClashes(t *testing.T) {
	draw := &lottery{state: 156}
	clean := 0
	for range 3000 {
		list := draw.frames(draw.number(9), 100, 1+draw.number(12))
		sum := 0
		for _, f := range list {
			sum += f.End - f.Start
		}
		load, none := impl.BusLoad(list, 0, far), len(impl.BusClashes(list)) == 0
		if load > sum || (load == sum) != none {
			t.Fatalf("%v: the load is %d, all are %d long, and that none clash is %v", list, load, sum, none)
		}
		if none && len(list) > 1 {
			clean++
		}
	}
	if clean < 300 {
		t.Fatal("too few", clean)
	}
}

// P15: a frame is heard just if it is over and in no clash, and stays heard.
func TestHeardJustIfOverAndInNoClash(t *testing.T) {
	draw := &lottery{state: 157}
	heards, missed := 0, 0
	for range 400 {
		list := draw.frames(draw.number(impl.MaxFrames+1), 1+draw.number(600), 1+draw.number(9))
		clashes := impl.BusClashes(list)
		inClash := func(i int) bool {
			return slices.ContainsFunc(clashes, func(c impl.Clash) bool { return c.A == i || c.B == i })
		}
		var last []int
		for at := -1; at <= 620; at += 1 + draw.number(9) {
			heard := impl.BusHeard(list, at)
			for i, f := range list {
				if slices.Contains(heard, i) != (f.End <= at && !inClash(i)) {
					t.Fatalf("%v at %d: %v are heard, and %v clash", list, at, heard, clashes)
				}
			}
			if !slices.IsSorted(heard) || slices.ContainsFunc(last, func(i int) bool { return !slices.Contains(heard, i) }) {
				t.Fatalf("%v at %d: %v were heard, and %v are", list, at, last, heard)
			}
			last = heard
		}
		heards += len(last)
		missed += len(list) - len(last)
	}
	if heards < 1000 || missed < 1000 {
		t.Fatal("too few", heards, missed)
	}
}

// The clashes of a bus are those of each two of its frames, put on a bus of their own.
func TestClashesTwoByTwo(t *testing.T) {
	draw := &lottery{state: 158}
	for range 150 {
		list := draw.frames(draw.number(25), 1+draw.number(120), 1+draw.number(12))
		var all []impl.Clash
		for a, f := range list {
			for b := a + 1; b < len(list); b++ {
				if len(impl.BusClashes(bus(f, list[b]))) == 1 {
					all = append(all, clash(a, b))
				}
			}
		}
		checkClashes(t, list, all...)
	}
}

// Every frame of a bus is one node's.
func TestFramesOfAllNodesAreTheBus(t *testing.T) {
	draw := &lottery{state: 159}
	for range 500 {
		list := draw.smallBus()
		var all []int
		for node := range impl.MaxNodes {
			for _, i := range impl.BusOf(list, node) {
				if list[i].From != node {
					t.Fatalf("%v: %d is told of %d", list, i, node)
				}
				all = append(all, i)
			}
		}
		slices.Sort(all)
		if len(all) != len(list) || len(slices.Compact(all)) != len(list) {
			t.Fatalf("%v: %v", list, all)
		}
	}
}

// A bus that is put together frame by frame is a bus at each step, and what is refused changes nothing.
func TestBusesPutTogether(t *testing.T) {
	draw := &lottery{state: 160}
	var codes [3]int
	for range 60 {
		var list []impl.Frame
		at := 0
		for range 2 * impl.MaxFrames {
			at = max(0, at+draw.number(9)-1)
			f := fm(draw.number(9), draw.number(17), draw.number(50), at, at+draw.number(9))
			want := wantBusPut(list, f)
			checkBusPut(t, list, f, want)
			codes[want.code]++
			if want.code == impl.BusDone {
				list, _ = impl.BusPut(list, f)
			}
			checkBusOk(t, list, true)
		}
	}
	for _, n := range codes {
		if n < 100 {
			t.Fatal("too few", codes)
		}
	}
}

// The first n of room are the bus; what stands behind them is none of it.
type roomyBus struct {
	room []impl.Frame
	n    int
}

func roomyBuses() map[string]roomyBus {
	all := wrongBuses()
	for n := range impl.MaxFrames + 1 {
		all[strconv.Itoa(n)+" frames"] = busWith(n)
	}
	rooms := map[string]roomyBus{}
	for name, list := range all {
		rooms[name] = roomyBus{slices.Concat(list, bus(fm(-7, -7, -7, -7, -7), fm(0, 0, 0, 900, 901))), len(list)}
	}
	return rooms
}

// Calls that are done and that are refused, of each function that tells frames or stretches or places.
func busCalls() (puts map[string]func([]impl.Frame) []impl.Frame, places map[string]func([]impl.Frame) []int) {
	put := func(f impl.Frame) func([]impl.Frame) []impl.Frame {
		return func(list []impl.Frame) []impl.Frame { got, _ := impl.BusPut(list, f); return got }
	}
	stray := func(p impl.Plan) func([]impl.Frame) []int {
		return func(list []impl.Frame) []int { return impl.BusStray(p, list) }
	}
	heard := func(t int) func([]impl.Frame) []int {
		return func(list []impl.Frame) []int { return impl.BusHeard(list, t) }
	}
	of := func(node int) func([]impl.Frame) []int {
		return func(list []impl.Frame) []int { return impl.BusOf(list, node) }
	}
	puts = map[string]func([]impl.Frame) []impl.Frame{"put": put(during(800, 801)), "put ahead": put(during(1, 2)), "put wrong": put(during(2, 2))}
	places = map[string]func([]impl.Frame) []int{
		"stray": stray(planOf(10, 2, sl(0, 5), sl(5, 4))), "stray of no plan": stray(impl.Plan{}),
		"heard early": heard(15), "heard late": heard(far), "of 0": of(0), "of nobody": of(-1),
		"FrameOk, BusOk and BusLoad": func(list []impl.Frame) []int {
			for _, f := range list {
				impl.FrameOk(f)
			}
			impl.BusOk(list)
			return []int{impl.BusLoad(list, 0, far), impl.BusLoad(list, 14, 17), impl.BusLoad(list, 5, 4)}
		},
	}
	return puts, places
}

// P23: neither a bus nor the spare room behind it is written into; what is answered has memory of its own; a call that is made again answers the same.
func checkBusSharesNothing[T comparable](t *testing.T, name string, call func([]impl.Frame) []T, with T) (told int) {
	t.Helper()
	for which, r := range roomyBuses() {
		list, kept := r.room[:r.n], slices.Clone(r.room)
		one, other := call(list), call(list)
		answer := slices.Clone(other)
		told += len(answer)
		same := slices.Equal(one, answer) && slices.Equal(r.room, kept)
		overwrite(one, with)
		same = same && slices.Equal(other, answer) && slices.Equal(r.room, kept)
		overwrite(r.room, fm(-5, -5, -5, -5, -5))
		if !same || !slices.Equal(other, answer) {
			t.Fatalf("%s of %s: the answers are not %v, or the bus is not %v any more", name, which, answer, kept)
		}
	}
	return told
}

func TestBusAnswersShareNothing(t *testing.T) {
	told := checkBusSharesNothing(t, "clashes", impl.BusClashes, clash(-5, -5))
	puts, places := busCalls()
	for name, call := range puts {
		told += checkBusSharesNothing(t, name, call, fm(-6, -6, -6, -6, -6))
	}
	for name, call := range places {
		told += checkBusSharesNothing(t, name, call, -6)
	}
	quiet := func(list []impl.Frame) []impl.Ival { return impl.BusQuiet(list, 0, far) }
	told += checkBusSharesNothing(t, "quiet", quiet, iv(-6, -6))
	none := func(list []impl.Frame) []impl.Ival { return impl.BusQuiet(list, 1, 0) }
	told += checkBusSharesNothing(t, "quiet of no span", none, iv(-6, -6))
	if told < 5000 {
		t.Fatal("what was written over", told)
	}
}

// P23: no plan is written into, nor the spare room behind its slots.
func TestBusChangesNoPlan(t *testing.T) {
	for name, p := range roomyPlans() {
		was, kept := p, slices.Clone(roomOf(p))
		for _, n := range []int{0, 1, 9, impl.MaxFrames, impl.MaxFrames + 1} {
			impl.BusStray(p, busWith(n))
		}
		if !samePlan(p, was) || !slices.Equal(roomOf(p), kept) {
			t.Fatalf("%s: %v came to %v", name, kept, roomOf(p))
		}
	}
}

// Every function of the chapter, done and refused.
func askBus(list []impl.Frame) {
	puts, places := busCalls()
	for _, call := range puts {
		call(list)
	}
	for _, call := range places {
		call(list)
	}
	impl.BusClashes(list)
	impl.BusQuiet(list, 0, far)
	impl.BusQuiet(list, 14, 17)
	impl.BusQuiet(list, 5, 4)
}

// No more goroutines than there were before.
func checkNobodyLeft(t *testing.T, before int) {
	t.Helper()
	// The last one may still be on its way out.
	for range 1000 {
		if runtime.NumGoroutine() <= before {
			return
		}
		time.Sleep(5 * time.Millisecond)
	}
	t.Error("there were", before, "and are", runtime.NumGoroutine())
}

// What sends the frames of a bus has ended when all of them were ranged over, so no call leaves anyone waiting.
func TestNobodyIsLeftSending(t *testing.T) {
	before := runtime.NumGoroutine()
	for range 20 {
		for _, n := range []int{0, 1, 2, 30, impl.MaxFrames, impl.MaxFrames + 1} {
			askBus(busWith(n))
		}
		for _, list := range wrongBuses() {
			askBus(list)
		}
	}
	checkNobodyLeft(t, before)
}

// P23: one bus may be asked by several at once, and each is told what it is told alone.
func TestOneBusAskedBySeveralAtOnce(t *testing.T) {
	list := busWith(impl.MaxFrames)
	kept := slices.Clone(list)
	p := planOf(10, 2, sl(0, 5), sl(5, 4))
	clashes, stray, load := impl.BusClashes(list), impl.BusStray(p, list), impl.BusLoad(list, 0, far)
	quiet, heard, of := impl.BusQuiet(list, 0, far), impl.BusHeard(list, 100), impl.BusOf(list, 5)
	var all sync.WaitGroup
	for range 16 {
		all.Go(func() {
			for range 20 {
				same := slices.Equal(impl.BusClashes(list), clashes) && slices.Equal(impl.BusStray(p, list), stray) && impl.BusLoad(list, 0, far) == load
				if !same || !slices.Equal(impl.BusQuiet(list, 0, far), quiet) || !slices.Equal(impl.BusHeard(list, 100), heard) || !slices.Equal(impl.BusOf(list, 5), of) {
					t.Error("an answer is another one")
				}
				if got, _ := impl.BusPut(list[:30], list[30]); !slices.Equal(got, list[:31]) {
					t.Error("put", got)
				}
			}
		})
	}
	all.Wait()
	if !slices.Equal(list, kept) || len(clashes) == 0 || len(stray) == 0 || len(quiet) == 0 || len(heard) == 0 || len(of) == 0 {
		t.Error("nothing was asked", list)
	}
}

// P23: a call that is made again answers the same, whatever was asked between.
func TestBusAnswersAreTheSameEachTime(t *testing.T) {
	list := bus(fm(0, 0, 0, 10, 14), fm(1, 1, 0, 13, 18), fm(1, 1, 0, 18, 20))
	p := planOf(10, 2, sl(0, 5), sl(1, 3))
	for range 20 {
		checkFrameOk(t, list[0], true)
		checkBusOk(t, list, true)
		checkBusPut(t, list[:2], list[2], busDone(list...))
		checkClashes(t, list, clash(0, 1))
		checkStray(t, p, list, 1)
		checkLoad(t, list, 8, 22, loaded(10, iv(8, 10), iv(20, 22)))
		checkHeard(t, list, 20, 2)
		checkOf(t, list, 1, 1, 2)
		for _, wrong := range wrongBuses() {
			askBus(wrong)
		}
	}
}
