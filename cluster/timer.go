package cluster

import "container/heap"

// What a timer is for.
const (
	againTimer = iota + 1
	askTimer
)

// After how many ticks a timer goes off.
const (
	againTicks = 4
	askTicks   = 3
)

// timer goes off when the shard's clock comes to its time.
type timer struct {
	due      int
	order    int // among all that were set: of one time the first that was set goes off first
	kind, tx int
}

// timers are those that a shard has set, as container/heap keeps them: the earliest is on top.
type timers struct {
	heap []timer
	set  int // how many have been set
}

func (t *timers) add(due, kind, tx int) {
	heap.Push(t, timer{due, t.set, kind, tx})
	t.set++
}

// due tells whether one is there whose time has come.
func (t *timers) due(clock int) bool {
	return len(t.heap) > 0 && t.heap[0].due <= clock
}

func (t *timers) takeEarliest() timer {
	return heap.Pop(t).(timer)
}

func (t *timers) Len() int { return len(t.heap) }

func (t *timers) Less(i, k int) bool {
	if t.heap[i].due != t.heap[k].due {
		return t.heap[i].due < t.heap[k].due
	}
	return t.heap[i].order < t.heap[k].order
}

func (t *timers) Swap(i, k int) {
	t.heap[i], t.heap[k] = t.heap[k], t.heap[i]
}

func (t *timers) Push(one any) {
	t.heap = append(t.heap, one.(timer))
}

func (t *timers) Pop() any {
	last := len(t.heap) - 1
	one := t.heap[last]
	t.heap = t.heap[:last]
	return one
}

// tick lets time pass. What goes off may be set anew, but always for a later tick, so this ends.
func (s *shard) tick() {
	s.clock++
	for s.timers.due(s.clock) {
		s.goOff(s.timers.takeEarliest())
	}
}

func (s *shard) goOff(t timer) {
	switch t.kind {
	case againTimer:
		s.remind(t.tx)
	case askTimer:
		s.askHome(t.tx)
	}
}

func (s *shard) againLater(tx int) {
	s.timers.add(s.clock+againTicks, againTimer, tx)
}

func (s *shard) askLater(tx int) {
	s.timers.add(s.clock+askTicks, askTimer, tx)
}
