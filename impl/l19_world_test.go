package impl

import (
	"slices"
	"sync"
	"testing"
	"time"
)

// What nodes count meets under the lock: who holds it keeps all counts out, and all of them are taken when it is free.
func TestCountsMeetUnderTheLock(t *testing.T) {
	met := meeting{counts: make([]int, 3)}
	var all sync.WaitGroup
	met.lock.Lock()
	for place, count := range []int{5, 9, 7} {
		all.Go(func() { met.take(place, count) })
	}
	time.Sleep(20 * time.Millisecond)
	if met.most != 0 || !slices.Equal(met.counts, []int{0, 0, 0}) {
		t.Error("taken past the lock", met.counts, met.most)
	}
	met.lock.Unlock()
	all.Wait()
	if met.most != 9 || !slices.Equal(met.counts, []int{5, 9, 7}) {
		t.Error("not taken", met.counts, met.most)
	}
}
