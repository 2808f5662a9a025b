package impl

import (
	"slices"
	"testing"
)

// Sends so many looks and as many readings over channels without room, in the order that the bits say, and closes each behind its last one.
func sendInTurns(turns int, looks chan<- Look, reads chan<- Reading, many int) {
	looked, read := 0, 0
	for range 2*many + 2 {
		if isLook := turns&1 == 0; (isLook || read > many) && looked <= many {
			if looked == many {
				close(looks)
			} else {
				looks <- Look{Known: true, Now: Ival{Lo: looked, Hi: looked}}
			}
			looked++
		} else {
			if read == many {
				close(reads)
			} else {
				reads <- Reading{Value: read}
			}
			read++
		}
		turns >>= 1
	}
}

// Whichever of both is there is taken, so that who sends them in any order is never left waiting, and each comes in its own order.
func TestBothAreTakenInAnyOrder(t *testing.T) {
	const many = 4
	for turns := range 1 << (2*many + 2) {
		looks, reads := make(chan Look), make(chan Reading)
		go sendInTurns(turns, looks, reads, many)
		seen, told := takeBoth(looks, reads)
		if len(seen) != many || len(told) != many {
			t.Fatal(turns, seen, told)
		}
		for i := range many {
			if seen[i].Now.Lo != i || told[i].Value != i {
				t.Fatal(turns, seen, told)
			}
		}
	}
}

// From no reads at all to as many as may be: all of it is sent while nobody is there to take it yet, and both are closed behind it.
func TestSightsWaitForNobody(t *testing.T) {
	for _, many := range []int{0, 1, 2, MaxTold} {
		var up []Told
		var wantLooks []Look
		var wantReads []Reading
		for i := range many {
			up = append(up, Told{Kind: OpRead, Value: i, Known: true, Now: Ival{Lo: i, Hi: i}}, Told{Kind: OpRead, Code: NodeOff}, Told{Kind: OpAsk})
			wantLooks = append(wantLooks, Look{Known: true, Now: Ival{Lo: i, Hi: i}})
			wantReads = append(wantReads, Reading{Value: i, Code: ReadWell})
		}
		looks, reads := sightsOf(up)
		seen, told := takeBoth(looks, reads)
		if !slices.Equal(seen, wantLooks) || !slices.Equal(told, wantReads) {
			t.Fatal(many, seen, told)
		}
		_, looking := <-looks
		_, reading := <-reads
		if looking || reading {
			t.Fatal(many, "one of both is open still")
		}
	}
}
