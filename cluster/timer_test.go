package cluster

import (
	"container/heap"
	"testing"
)

// goOff takes all timers in the order in which they would go off.
func goOff(t *timers) []timer {
	var all []timer
	for t.Len() > 0 {
		all = append(all, heap.Pop(t).(timer))
	}
	return all
}

// P5, P6: a begin sets a timer "again", 4 ticks from now, a prepare one "ask", 3 ticks from now.
func TestTimersAreSet(t *testing.T) {
	c := made(t, 2)
	submitted(t, c, r('a'), r('b'))
	c.shards[0].clock = 10
	deliver(t, c, 3)
	same(t, "at the home", goOff(&c.shards[0].timers), []timer{
		{due: 13, order: 1, kind: askTimer, tx: 0},
		{due: 14, order: 0, kind: againTimer, tx: 0},
	})
	same(t, "at the other", goOff(&c.shards[1].timers), []timer{{due: 3, order: 0, kind: askTimer, tx: 0}})
}

// The earliest goes off first, of one time that which was set first.
func TestTimersInOrder(t *testing.T) {
	var set timers
	for tx := range 60 {
		set.add(7*tx%5, askTimer, tx)
	}
	ahead := timer{due: -1}
	for i, one := range goOff(&set) {
		if one.tx != one.order || one.due != 7*one.tx%5 || one.due < ahead.due || one.due == ahead.due && one.order < ahead.order {
			t.Errorf("timer %d: %v behind %v", i, one, ahead)
		}
		ahead = one
	}
}
