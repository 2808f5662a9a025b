package tests

import (
	"math"
	"slices"
	"strconv"
	"sync"
	"testing"

	"loop.example/g00072/impl"
)

// A node that hears the frames of a plan, what its oscillator counts, and the true time at which each slot was heard last.
type hearer struct {
	t     *testing.T
	name  string
	p     impl.Plan
	o     impl.Osc
	list  []impl.Heard
	times map[int]int
	late  int
	told  int
	lost  int
}

func (h *hearer) goOn(by, want int) bool {
	next, ok := impl.OscStep(h.o, impl.Stride{By: by, Want: want})
	if ok {
		h.o = next
	}
	return ok
}

func (h *hearer) hear(slot int) {
	h.t.Helper()
	list, code := impl.Hear(h.list, h.p, frame(h.p.Slots[slot].Owner, slot, "body"), h.o.Count)
	if code != impl.HearDone || !impl.HeardOk(list) || !slices.Contains(list, hd(slot, h.o.Count)) {
		h.t.Fatalf("%s: %v with %d at %v: %v, %d", h.name, h.list, slot, h.o, list, code)
	}
	h.list, h.times[slot] = list, h.o.Time
}

// P16: a slot that was heard a round ago or less, by true time, is told; what is not told has been heard longer ago, or never; and each slot of the plan is told or lost, not both.
func (h *hearer) look() {
	h.t.Helper()
	round := impl.RoundOf(h.p)
	told, lost := impl.HeardNow(h.list, h.p, h.o.Drift, h.o.Count), impl.HeardLost(h.list, h.p, h.o.Drift, h.o.Count)
	if len(told)+len(lost) != len(h.p.Slots) || !slices.IsSorted(told) || !slices.IsSorted(lost) {
		h.t.Fatalf("%s: %v are told and %v lost of %v", h.name, told, lost, h.p)
	}
	for slot := range h.p.Slots {
		in := slices.Contains(told, slot)
		if in == slices.Contains(lost, slot) {
			h.t.Fatalf("%s: %v are told and %v lost of %v", h.name, told, lost, h.p)
		}
		at, was := h.times[slot]
		if was && h.o.Time-at <= round && !in {
			h.t.Fatalf("%s by %v at %v: %d was heard at %d, the round is %d, and %v are told", h.name, h.o.Drift, h.o, slot, at, round, told)
		}
		if !was && in {
			h.t.Fatalf("%s: %d was never heard, and %v are told", h.name, slot, told)
		}
		if was && in && h.o.Time-at > round {
			h.late++
		}
	}
	h.told += len(told)
	h.lost += len(lost)
}

// A node that hears slots now and then, of any plan, by an oscillator at the ends of its drift or between.
func TestHeardARoundAgoOrLessIsTold(t *testing.T) {
	told, lost, late := 0, 0, 0
	for name, tick := range ticks() {
		draw := &lottery{state: 161}
		for _, d := range rightDrifts() {
			h := hearer{t: t, name: name, p: draw.smallPlan(), o: osc(d, 50, 7), times: map[int]int{}}
			round := impl.RoundOf(h.p)
			for step := range 120 {
				// Mostly less than a round, sometimes just one, or more.
				by := []int{1, 2, round / 5, draw.number(round + 1), round, draw.number(2*round + 1)}[step%6]
				if !h.goOn(by, tick(step, by)) {
					t.Fatalf("%s by %v ended at %v", name, d, h.o)
				}
				if step%3 != 2 {
					h.hear(draw.number(len(h.p.Slots)))
				}
				h.look()
			}
			told, lost, late = told+h.told, lost+h.lost, late+h.late
		}
	}
	if told < 10000 || lost < 10000 || late < 100 {
		t.Fatal("too few", told, lost, late)
	}
}

// The same by long rounds, and where times and counts end.
func TestHeardARoundAgoOrLessByLongRounds(t *testing.T) {
	told, lost := 0, 0
	for name, tick := range ticks() {
		draw := &lottery{state: 162}
		for _, d := range rightDrifts() {
			p := draw.anyPlan()
			round := impl.RoundOf(p)
			h := hearer{t: t, name: name, p: p, o: osc(d, far-5*round, far-9*round), times: map[int]int{}}
			steps := 0
			for by := round / 3; h.goOn(by, tick(steps, by)); by = 1 + draw.number(round) {
				if steps%2 == 0 {
					h.hear(draw.number(len(h.p.Slots)))
				}
				h.look()
				steps++
			}
			if steps < 5 {
				t.Fatalf("%s by %v: %d steps, at %v", name, d, steps, h.o)
			}
			told, lost = told+h.told, lost+h.lost
		}
	}
	if told < 1000 || lost < 1000 {
		t.Fatal("too few", told, lost)
	}
}

// P16, of every stretch of a drift: a slot is told just while some true time may have gone by since that is a round or less; it is lost once each one is more.
func TestToldUntilARoundHasGoneByForSure(t *testing.T) {
	draw := &lottery{state: 163}
	told, lost, unsure := 0, 0, 0
	for _, d := range smallDrifts(7) {
		if !impl.DriftOk(d) {
			continue
		}
		for range 40 {
			p := draw.plan(1+draw.number(4), 4, 1+draw.number(4), 1+draw.number(3), 40)
			round, slot := impl.RoundOf(p), draw.number(len(p.Slots))
			for gone := range 2*round + 4 {
				may, must := false, true
				for _, time := range takesOf(d, gone) {
					may = may || time <= round
					must = must && time <= round
				}
				at := []int{0, 9, far - gone}[draw.number(3)]
				in := slices.Contains(impl.HeardNow(heards(hd(slot, at)), p, d, at+gone), slot)
				out := slices.Contains(impl.HeardLost(heards(hd(slot, at)), p, d, at+gone), slot)
				if in != may || out == may {
					t.Fatalf("by %v, %d counts behind, in %v: that it is told is %v, that it is lost is %v, that it may be a round or less is %v", d, gone, p, in, out, may)
				}
				switch {
				case !may:
					lost++
				case must:
					told++
				default:
					unsure++
				}
			}
		}
	}
	if told < 500 || lost < 500 || unsure < 500 {
		t.Fatal("too few", told, lost, unsure)
	}
}

// P16, of any plan and drift: the last count at which a slot is told is that to which an oscillator may count within a round; from the next one on it is lost, and stays so.
func TestLostFromTheFirstCountBehindARound(t *testing.T) {
	draw := &lottery{state: 164}
	for _, p := range manyPlans(draw, 300) {
		round := impl.RoundOf(p)
		for _, d := range rightDrifts() {
			most, ok := impl.MostCount(d, round)
			if !ok {
				t.Fatal("the most counts of a round", p, d)
			}
			slot, at := draw.number(len(p.Slots)), draw.number(1000000)
			list := heards(hd(slot, at))
			for _, gone := range []int{0, 1, draw.number(most + 1), round, most - 1, most} {
				if gone >= 0 && gone <= most {
					checkNow(t, list, p, d, at+gone, slot)
				}
			}
			for _, count := range []int{at + most + 1, at + most + 2, at + most + 1 + draw.number(1000000), at + 2*most + 1, far} {
				checkNow(t, list, p, d, count)
				if lost := impl.HeardLost(list, p, d, count); len(lost) != len(p.Slots) {
					t.Fatalf("%v by %v at %d: %v are lost of %v", list, d, count, lost, p)
				}
			}
			// Heard once more, it is told again, for a round from then on.
			list, _ = impl.Hear(list, p, frame(p.Slots[slot].Owner, slot, ""), at+most+1)
			checkNow(t, list, p, d, at+most+1, slot)
			checkNow(t, list, p, d, at+2*most+1, slot)
			checkNow(t, list, p, d, at+2*most+2)
		}
	}
}

// P16: what is told and what is lost are all slots of the plan, and none twice; if other slots were heard, those are told beside them, and never lost.
func TestToldAndLostAreAllSlotsOfThePlan(t *testing.T) {
	draw := &lottery{state: 165}
	drifts := rightDrifts()
	whole, more := 0, 0
	for _, p := range manyPlans(draw, 1500) {
		d, at := drifts[draw.number(len(drifts))], 1+draw.number(3*min(impl.RoundOf(p), 1000))
		count := draw.number(2 * at)
		own := draw.heardsOf(p, at)
		all := slices.Concat(impl.HeardNow(own, p, d, count), impl.HeardLost(own, p, d, count))
		slices.Sort(all)
		if len(all) != len(p.Slots) || len(slices.Compact(all)) != len(p.Slots) || all[0] != 0 || all[len(all)-1] != len(p.Slots)-1 {
			t.Fatalf("%v by %v at %d: told and lost are %v, of %v", own, d, count, all, p)
		}
		whole++
		others := slices.DeleteFunc(draw.anyHeards(at), func(h impl.Heard) bool { return h.Slot < len(p.Slots) })
		both := slices.Concat(own, others)
		checkNow(t, both, p, d, count, slices.Concat(impl.HeardNow(own, p, d, count), impl.HeardNow(others, p, d, count))...)
		checkLost(t, both, p, d, count, impl.HeardLost(own, p, d, count)...)
		more += len(impl.HeardNow(others, p, d, count))
	}
	if whole < 3000 || more < 1000 {
		t.Fatal("too few", whole, more)
	}
}

// Each slot is told or not by itself, whatever else was heard.
func TestEachSlotIsToldByItself(t *testing.T) {
	draw := &lottery{state: 166}
	for range 2000 {
		p, d := draw.smallPlan(), []impl.Drift{dr(0, 1), dr(1, 2), dr(1, 5), dr(1, impl.MaxDen)}[draw.number(4)]
		list, count := draw.anyHeards(60), draw.number(120)
		var told []int
		for _, h := range list {
			told = append(told, impl.HeardNow(heards(h), p, d, count)...)
		}
		checkNow(t, list, p, d, count, told...)
	}
}

// What was heard is put in at its slot, and everything else stays; what was not heard changes nothing.
func TestHearChangesOneSlotAlone(t *testing.T) {
	draw := &lottery{state: 167}
	var codes [3]int
	for range 5000 {
		p, list, count := draw.smallPlan(), draw.anyHeards(100), draw.number(100)
		slot := draw.number(impl.MaxHeard)
		m := frame(draw.number(impl.MaxNodes), slot, "")
		if slot < len(p.Slots) && draw.number(2) == 0 {
			m.From = p.Slots[slot].Owner
		}
		next, code := impl.Hear(list, p, m, count)
		codes[code]++
		if code == impl.HearNot && !slices.Equal(next, list) || !impl.HeardOk(next) {
			t.Fatalf("%v, %v, %v: %v, %d", list, p, m, next, code)
		}
		if code != impl.HearDone {
			continue
		}
		other := func(h impl.Heard) bool { return h.Slot == slot }
		if !slices.Contains(next, hd(slot, count)) || !slices.Equal(slices.DeleteFunc(slices.Clone(next), other), slices.DeleteFunc(slices.Clone(list), other)) {
			t.Fatalf("%v, %v, %v at %d: %v", list, p, m, count, next)
		}
		// Unlike is the slot itself, if it was not there; and it is told where it was just heard.
		if hasHeard(list, slot) {
			checkUnlike(t, list, next)
		} else {
			checkUnlike(t, list, next, slot)
		}
		if !slices.Contains(impl.HeardNow(next, p, dr(1, 2), count), slot) || !slices.Contains(impl.HeardOwners(next, p), m.From) {
			t.Fatalf("%v at %d: %d is not told", next, count, slot)
		}
		checkHear(t, next, p, m, count, hearDone(next...))
	}
	if codes[impl.HearDone] < 500 || codes[impl.HearNot] < 500 || codes[impl.HearBad] != 0 {
		t.Fatal("too few", codes)
	}
}

// Who is unlike: as sets are, in both orders, and by way of a third one.
func TestUnlikeAsSetsAre(t *testing.T) {
	draw := &lottery{state: 168}
	for range 3000 {
		a, b, c := draw.anyHeards(50), draw.anyHeards(50), draw.anyHeards(50)
		ab, bc, ac := impl.HeardUnlike(a, b), impl.HeardUnlike(b, c), impl.HeardUnlike(a, c)
		checkUnlike(t, b, a, ab...)
		for slot := range impl.MaxHeard {
			if slices.Contains(ab, slot) != (hasHeard(a, slot) != hasHeard(b, slot)) {
				t.Fatalf("%v and %v: %v", a, b, ab)
			}
			if slices.Contains(ac, slot) != (slices.Contains(ab, slot) != slices.Contains(bc, slot)) {
				t.Fatalf("%v, %v and %v: %v, %v, %v", a, b, c, ab, bc, ac)
			}
		}
	}
}

// The owners of what was heard are owners of the plan; of all its slots they are all of them.
func TestHeardOwnersAreOwners(t *testing.T) {
	draw := &lottery{state: 169}
	for _, p := range manyPlans(draw, 800) {
		list := draw.anyHeards(50)
		var want []int
		for _, h := range list {
			if h.Slot < len(p.Slots) && !slices.Contains(want, p.Slots[h.Slot].Owner) {
				want = append(want, p.Slots[h.Slot].Owner)
			}
		}
		slices.Sort(want)
		checkHeardOwners(t, list, p, want...)
		checkHeardOwners(t, heardWith(len(p.Slots)), p, impl.OwnersOf(p)...)
		checkHeardOwners(t, heardWith(impl.MaxHeard), p, impl.OwnersOf(p)...)
	}
}

// The first n of room are the list; what stands behind them is none of it.
type roomyHeard struct {
	room []impl.Heard
	n    int
}

func roomyHeards() map[string]roomyHeard {
	all := wrongHeardLists()
	for n := range impl.MaxHeard + 1 {
		all[strconv.Itoa(n)+" slots"] = heardWith(n)
	}
	all["some slots"] = heards(hd(2, 40), hd(5, 50), hd(9, 60))
	rooms := map[string]roomyHeard{}
	for name, list := range all {
		rooms[name] = roomyHeard{slices.Concat(list, heards(hd(-7, -7), hd(3, 50), hd(15, 51))), len(list)}
	}
	return rooms
}

// Calls that are done and that are refused, of each function that tells heard slots or numbers.
func heardCalls(p impl.Plan) (hears map[string]func([]impl.Heard) []impl.Heard, slots map[string]func([]impl.Heard) []int) {
	hear := func(m impl.Msg, count int) func([]impl.Heard) []impl.Heard {
		return func(list []impl.Heard) []impl.Heard { got, _ := impl.Hear(list, p, m, count); return got }
	}
	hears = map[string]func([]impl.Heard) []impl.Heard{"not heard": hear(impl.Msg{}, 60), "no count": hear(frame(0, 0, ""), -1)}
	for i, s := range p.Slots {
		hears["hear "+strconv.Itoa(i)] = hear(frame(s.Owner, i, "body"), 60)
	}
	slots = map[string]func([]impl.Heard) []int{
		"ok":                    func(list []impl.Heard) []int { return []int{len(list), map[bool]int{true: 1}[impl.HeardOk(list)]} },
		"owners":                func(list []impl.Heard) []int { return impl.HeardOwners(list, p) },
		"unlike":                func(list []impl.Heard) []int { return impl.HeardUnlike(list, heardWith(5)) },
		"unlike, the other way": func(list []impl.Heard) []int { return impl.HeardUnlike(nil, list) },
		"unlike itself":         func(list []impl.Heard) []int { return impl.HeardUnlike(list, list) },
	}
	for _, count := range []int{math.MinInt, -1, 0, 45, 60, 90, far, far + 1, math.MaxInt} {
		for _, d := range []impl.Drift{dr(0, 1), dr(1, 2), dr(1, 1)} {
			name := strconv.Itoa(count) + " by " + strconv.Itoa(d.Num) + " of " + strconv.Itoa(d.Den)
			slots["now at "+name] = func(list []impl.Heard) []int { return impl.HeardNow(list, p, d, count) }
			slots["lost at "+name] = func(list []impl.Heard) []int { return impl.HeardLost(list, p, d, count) }
		}
	}
	return hears, slots
}

// P23: neither a list nor the spare room behind it is written into; what is answered has memory of its own; a call that is made again answers the same.
func checkHeardSharesNothing[T comparable](t *testing.T, name string, call func([]impl.Heard) []T, with T) (told int) {
	t.Helper()
	for which, r := range roomyHeards() {
		list, kept := r.room[:r.n], slices.Clone(r.room)
		one, other := call(list), call(list)
		answer := slices.Clone(other)
		told += len(answer)
		same := slices.Equal(one, answer) && slices.Equal(r.room, kept)
		overwrite(one, with)
		same = same && slices.Equal(other, answer) && slices.Equal(r.room, kept)
		overwrite(r.room, hd(-5, -5))
		if !same || !slices.Equal(other, answer) {
			t.Fatalf("%s of %s: the answers are not %v, or the list is not %v any more", name, which, answer, kept)
		}
	}
	return told
}

func TestHeardAnswersShareNothing(t *testing.T) {
	told := 0
	for _, p := range []impl.Plan{planWith(1), planWith(6), planWith(impl.MaxSlots), {}} {
		hears, slots := heardCalls(p)
		for name, call := range hears {
			told += checkHeardSharesNothing(t, name, call, hd(-6, -6))
		}
		for name, call := range slots {
			told += checkHeardSharesNothing(t, name, call, -6)
		}
	}
	if told < 5000 {
		t.Fatal("what was written over", told)
	}
}

// P23: of two lists neither is written into, also where one stands right behind the other.
func TestUnlikeChangesNeither(t *testing.T) {
	for i := range impl.MaxHeard + 1 {
		for j := range impl.MaxHeard + 1 {
			room := slices.Concat(heardWith(i), heardBy(1<<j-1<<(j/2)))
			kept := slices.Clone(room)
			impl.HeardUnlike(room[:i], room[i:])
			impl.HeardUnlike(room[i:], room[:i])
			if !slices.Equal(room, kept) {
				t.Fatalf("%v came to %v", kept, room)
			}
		}
	}
}

// P23: no plan is written into, nor the spare room behind its slots.
func TestHeardChangesNoPlan(t *testing.T) {
	for name, p := range roomyPlans() {
		was, kept := p, slices.Clone(roomOf(p))
		hears, slots := heardCalls(p)
		for _, list := range [][]impl.Heard{nil, heardWith(3), heardWith(impl.MaxHeard), heards(hd(3, 5), hd(2, 5))} {
			for _, call := range hears {
				call(list)
			}
			for _, call := range slots {
				call(list)
			}
		}
		if !samePlan(p, was) || !slices.Equal(roomOf(p), kept) {
			t.Fatalf("%s: %v came to %v", name, kept, roomOf(p))
		}
	}
}

// P23: one list may be asked by several at once, and each is told what it is told alone.
func TestOneHeardListAskedBySeveralAtOnce(t *testing.T) {
	p, list := planWith(impl.MaxSlots), heardBy(0b1011_0110_1101_0110)
	kept := slices.Clone(list)
	hears, slots := heardCalls(p)
	heardAlone, slotsAlone := map[string][]impl.Heard{}, map[string][]int{}
	for name, call := range hears {
		heardAlone[name] = call(list)
	}
	for name, call := range slots {
		slotsAlone[name] = call(list)
	}
	var all sync.WaitGroup
	for range 16 {
		all.Go(func() {
			for range 20 {
				for name, call := range hears {
					if got := call(list); !slices.Equal(got, heardAlone[name]) {
						t.Error(name, got)
					}
				}
				for name, call := range slots {
					if got := call(list); !slices.Equal(got, slotsAlone[name]) {
						t.Error(name, got)
					}
				}
			}
		})
	}
	all.Wait()
	if !slices.Equal(list, kept) || len(slotsAlone["unlike"]) == 0 || len(slotsAlone["owners"]) == 0 {
		t.Error("nothing was asked", list)
	}
}

// P23: a call that is made again answers the same, whatever was asked between.
func TestHeardAnswersAreTheSameEachTime(t *testing.T) {
	p, d := planOf(10, 2, sl(5, 5), sl(1, 3)), dr(1, 4)
	list := heards(hd(0, 20), hd(9, 30))
	for range 20 {
		checkHeardOk(t, list, true)
		checkHear(t, list, p, frame(1, 1, "x"), 33, hearDone(hd(0, 20), hd(1, 33), hd(9, 30)))
		checkHear(t, list, p, frame(5, 1, "x"), 33, hearNot(list...))
		checkNow(t, list, p, d, 35, 0, 9)
		checkNow(t, list, p, d, 36, 9)
		checkLost(t, list, p, d, 36, 0, 1)
		checkUnlike(t, list, heards(hd(1, 5), hd(9, 5)), 0, 1)
		checkHeardOwners(t, list, p, 5)
		for _, wrong := range wrongHeardLists() {
			hears, slots := heardCalls(p)
			for _, call := range hears {
				call(wrong)
			}
			for _, call := range slots {
				call(wrong)
			}
		}
	}
}
