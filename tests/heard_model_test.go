package tests

import (
	"math"
	"slices"
	"strconv"
	"strings"

	"loop.example/g00072/impl"
)

// What the document says of heard slots, written again over plain lists and numbers without bound; slots are looked for one by one here.

func hd(slot, at int) impl.Heard { return impl.Heard{Slot: slot, At: at} }

func heards(list ...impl.Heard) []impl.Heard { return list }

type hearAnswer struct {
	list []impl.Heard
	code int
}

func wantHeardOk(list []impl.Heard) bool {
	for i, h := range list {
		if !inRange(bigOf(h.Slot), 0, impl.MaxHeard-1) || !bigTime(bigOf(h.At)) || i > 0 && list[i-1].Slot >= h.Slot {
			return false
		}
	}
	return true
}

func wantHear(list []impl.Heard, p impl.Plan, m impl.Msg, count int) hearAnswer {
	switch {
	case !wantHeardOk(list) || !wantPlanOk(p) || !bigTime(bigOf(count)):
		return hearAnswer{code: impl.HearBad}
	case !wantMsgOk(m) || m.Kind != impl.KindFrame || !wantHasSlot(p, m.Slot) || p.Slots[m.Slot].Owner != m.From:
		return hearAnswer{list, impl.HearNot}
	}
	// The new one behind those ahead of its slot, and then those behind it.
	var ahead, behind []impl.Heard
	for _, h := range list {
		if h.Slot < m.Slot {
			ahead = append(ahead, h)
		}
		if h.Slot > m.Slot {
			behind = append(behind, h)
		}
	}
	return hearAnswer{slices.Concat(ahead, heards(hd(m.Slot, count)), behind), impl.HearDone}
}

func wantHeardAsked(list []impl.Heard, p impl.Plan, d impl.Drift, count int) bool {
	return wantHeardOk(list) && wantPlanOk(p) && wantDriftOk(d) && bigTime(bigOf(count))
}

func wantNow(list []impl.Heard, p impl.Plan, d impl.Drift, count int) []int {
	var slots []int
	if !wantHeardAsked(list, p, d, count) {
		return slots
	}
	for _, h := range list {
		if count < h.At {
			continue
		}
		if least := wantTime(d, count-h.At, -1); least.ok && least.n <= wantRoundOf(p) {
			slots = append(slots, h.Slot)
		}
	}
	return slots
}

// What is told is handed in, so that it is not looked for again.
func wantLost(list []impl.Heard, p impl.Plan, d impl.Drift, count int, told []int) []int {
	var slots []int
	if !wantHeardAsked(list, p, d, count) {
		return slots
	}
	for i := range p.Slots {
		if !slices.Contains(told, i) {
			slots = append(slots, i)
		}
	}
	return slots
}

func hasHeard(list []impl.Heard, slot int) bool {
	return slices.ContainsFunc(list, func(h impl.Heard) bool { return h.Slot == slot })
}

func wantUnlike(a, b []impl.Heard) []int {
	var slots []int
	if !wantHeardOk(a) || !wantHeardOk(b) {
		return slots
	}
	for slot := range impl.MaxHeard {
		if hasHeard(a, slot) != hasHeard(b, slot) {
			slots = append(slots, slot)
		}
	}
	return slots
}

func wantHeardOwners(list []impl.Heard, p impl.Plan) []int {
	var owners []int
	if !wantHeardOk(list) || !wantPlanOk(p) {
		return owners
	}
	for i, s := range p.Slots {
		if hasHeard(list, i) {
			owners = append(owners, s.Owner)
		}
	}
	slices.Sort(owners)
	return slices.Compact(owners)
}

// The slots that are chosen by the bits of a number, no two heard at one count.
func heardBy(choice int) []impl.Heard {
	var list []impl.Heard
	for slot := range impl.MaxHeard {
		if choice>>slot&1 == 1 {
			list = append(list, hd(slot, 40+7*slot%13))
		}
	}
	return list
}

// The first so many slots.
func heardWith(n int) []impl.Heard { return heardBy(1<<n - 1) }

// Each of its numbers one beyond an end, and at the outermost ints.
func wrongHeards() []impl.Heard {
	var list []impl.Heard
	for _, slot := range []int{-1, impl.MaxHeard, math.MinInt, math.MaxInt, 63, 64, -64} {
		list = append(list, hd(slot, 50))
	}
	for _, at := range []int{-1, far + 1, math.MinInt, math.MaxInt} {
		list = append(list, hd(4, at))
	}
	return list
}

// Lists that are none, in each of their ways.
func wrongHeardLists() map[string][]impl.Heard {
	full := heardWith(impl.MaxHeard)
	back := slices.Clone(full)
	slices.Reverse(back)
	all := map[string][]impl.Heard{
		"two alike":                   heards(hd(3, 50), hd(3, 50)),
		"two of one slot":             heards(hd(3, 50), hd(3, 51)),
		"two of one slot at the end":  heards(hd(0, 50), hd(15, 50), hd(15, 51)),
		"two that are the zero value": {{}, {}},
		"two in the wrong order":      heards(hd(4, 50), hd(3, 50)),
		"the wrong order at the end":  heards(hd(0, 50), hd(5, 50), hd(4, 50)),
		"the first again behind":      heards(hd(1, 50), hd(2, 50), hd(1, 50)),
		"all turned round":            back,
		"the last one twice":          append(slices.Clone(full), full[impl.MaxHeard-1]),
		"one more":                    append(slices.Clone(full), hd(impl.MaxHeard, 50)),
		"one more, from -1 on":        append(heards(hd(-1, 50)), full...),
		"all of them many times":      slices.Repeat(full, 40),
		"by the count, not the slot":  heards(hd(4, 1), hd(3, 2), hd(2, 3)),
	}
	for _, wrong := range wrongHeards() {
		name := "the slot " + strconv.Itoa(wrong.Slot) + " at " + strconv.Itoa(wrong.At)
		all[name+", alone"] = heards(wrong)
		all[name+", in front"] = heards(wrong, hd(9, 50), hd(15, 50))
		all[name+", between"] = heards(hd(0, 50), wrong, hd(15, 50))
		all[name+", at the end"] = heards(hd(0, 50), hd(3, 50), wrong)
	}
	return all
}

// What is not heard in a slot of the owner from, in each of its ways: no message, no frame, or no frame of that owner.
func unheard(from, slot int) map[string]impl.Msg {
	right, other := frame(from, slot, "body"), (from+1)%impl.MaxNodes
	all := map[string]impl.Msg{
		"the zero value": {}, "a probe": probe(from, other, 7), "a reply": reply(from, other, 7, iv(3, 9)), "a reply at 0": reply(from, other, 0, impl.Ival{}),
	}
	change := func(name string, by func(m *impl.Msg)) {
		m := right
		by(&m)
		all[name] = m
	}
	for _, kind := range []int{math.MinInt, -1, 0, impl.KindProbe, impl.KindReply, 4, math.MaxInt} {
		change("of the kind "+strconv.Itoa(kind), func(m *impl.Msg) { m.Kind = kind })
	}
	for _, node := range append(noNodes(), other) {
		change("from "+strconv.Itoa(node), func(m *impl.Msg) { m.From = node })
	}
	// No plan has so many slots, though a frame may say them.
	for _, i := range []int{math.MinInt, -1, impl.MaxSlots, 15, 16, math.MaxInt} {
		change("for the slot "+strconv.Itoa(i), func(m *impl.Msg) { m.Slot = i })
	}
	change("with a To", func(m *impl.Msg) { m.To = other })
	change("with a To that is no node", func(m *impl.Msg) { m.To = -1 })
	change("with a Nonce", func(m *impl.Msg) { m.Nonce = 1 })
	change("with a Said", func(m *impl.Msg) { m.Said = iv(0, 1) })
	change("with a Body one too long", func(m *impl.Msg) { m.Body = strings.Repeat("z", impl.MaxBody+1) })
	return all
}

// So many slots below most, each heard at a count below at.
func (l *lottery) heards(n, most, at int) []impl.Heard {
	var list []impl.Heard
	for slot := range most {
		// As many are still wanted of those that are left.
		if l.number(most-slot) < n {
			list = append(list, hd(slot, l.number(at)))
			n--
		}
	}
	return list
}

// Some of the slots of a plan.
func (l *lottery) heardsOf(p impl.Plan, at int) []impl.Heard {
	return l.heards(l.number(len(p.Slots)+1), len(p.Slots), at)
}

// Some of all slots that may be heard, so of a plan and others.
func (l *lottery) anyHeards(at int) []impl.Heard {
	return l.heards(l.number(impl.MaxHeard+1), impl.MaxHeard, at)
}
