package impl

import "cmp"

const (
	MaxTime  = 1000000000000
	MaxIvals = 64
)

type Ival struct {
	Lo int
	Hi int
}

// One function tells both, so that the least and the greatest of two numbers always go by the same order.
func ranked[T cmp.Ordered](x T, y T) (least T, greatest T) {
	if y < x {
		return y, x
	}
	return x, y
}

func (a Ival) ok() bool {
	return a.Lo <= a.Hi && a.Lo >= -MaxTime && a.Hi <= MaxTime
}

// What a function worked out may be no interval; a false then stands beside the zero value.
func (a Ival) told() (Ival, bool) {
	if !a.ok() {
		return Ival{}, false
	}
	return a, true
}

// Where the two have no number in common, Lo comes out above Hi, by as much as they are apart.
func (a Ival) meet(b Ival) Ival {
	_, lo := ranked(a.Lo, b.Lo)
	hi, _ := ranked(a.Hi, b.Hi)
	return Ival{Lo: lo, Hi: hi}
}

func (a Ival) join(b Ival) Ival {
	lo, _ := ranked(a.Lo, b.Lo)
	_, hi := ranked(a.Hi, b.Hi)
	return Ival{Lo: lo, Hi: hi}
}

func bothOk(a Ival, b Ival) bool { return a.ok() && b.ok() }

func IvalOk(a Ival) bool { return a.ok() }

func Wide(a Ival) int {
	if !a.ok() {
		return -1
	}
	return a.Hi - a.Lo
}

func Holds(a Ival, t int) bool {
	return a.ok() && a.Lo <= t && t <= a.Hi
}

func Within(a Ival, b Ival) bool {
	return bothOk(a, b) && a.meet(b) == a
}

func Shift(a Ival, by int) (Ival, bool) {
	// The limits are asked ahead of the sum, which could leave 64 bits without them.
	if !a.ok() || by < -2*MaxTime || by > 2*MaxTime {
		return Ival{}, false
	}
	return Ival{Lo: a.Lo + by, Hi: a.Hi + by}.told()
}

func Spread(a Ival, low int, high int) (Ival, bool) {
	if !a.ok() || low < 0 || low > 2*MaxTime || high < 0 || high > 2*MaxTime {
		return Ival{}, false
	}
	return Ival{Lo: a.Lo - low, Hi: a.Hi + high}.told()
}

func Meet(a Ival, b Ival) (Ival, bool) {
	if !bothOk(a, b) {
		return Ival{}, false
	}
	return a.meet(b).told()
}

func Join(a Ival, b Ival) (Ival, bool) {
	if !bothOk(a, b) {
		return Ival{}, false
	}
	return a.join(b), true
}

func MeetAll(list []Ival) (Ival, bool) { return twoByTwo(list, Meet) }

func JoinAll(list []Ival) (Ival, bool) { return twoByTwo(list, Join) }

func twoByTwo(list []Ival, two func(Ival, Ival) (Ival, bool)) (Ival, bool) {
	if len(list) < 1 || len(list) > MaxIvals {
		return Ival{}, false
	}
	all, ok := list[0].told()
	for _, a := range list[1:] {
		if !ok {
			return Ival{}, false
		}
		all, ok = two(all, a)
	}
	return all, ok
}

func Apart(a Ival, b Ival) int {
	if !bothOk(a, b) {
		return -1
	}
	m := a.meet(b)
	_, far := ranked(m.Lo-m.Hi, 0)
	return far
}

func Middle(a Ival) (int, bool) {
	if !a.ok() {
		return 0, false
	}
	// A shift goes down also below 0, where a division would go towards 0.
	return (a.Lo + a.Hi) >> 1, true
}

func Nearest(a Ival, t int) (int, bool) {
	if !a.ok() {
		return 0, false
	}
	_, low := ranked(a.Lo, t)
	near, _ := ranked(low, a.Hi)
	return near, true
}

func PlusIval(a Ival, b Ival) (Ival, bool) {
	if !bothOk(a, b) {
		return Ival{}, false
	}
	return Ival{Lo: a.Lo + b.Lo, Hi: a.Hi + b.Hi}.told()
}

func LessIval(a Ival, b Ival) (Ival, bool) {
	if !bothOk(a, b) {
		return Ival{}, false
	}
	return Ival{Lo: a.Lo - b.Hi, Hi: a.Hi - b.Lo}.told()
}
