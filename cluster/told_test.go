package cluster

import (
	"runtime"
	"testing"
	"time"
)

// P9: what is there is told, of each shard its own.
func TestWhatIsThere(t *testing.T) {
	c := filled(t)
	c.shards[1].values['d'] = 0
	c.shards[1].values['f'] = -1
	same(t, "the values", c.Values(1), map[byte]int32{'b': 9, 'f': -1})
	same(t, "the locks", c.Locks(1), map[byte]int{'d': 1})
	log, good := c.Records(1)
	same(t, "the log", log, []Record{{Kind: 1, Tx: 1, Ops: []Op{r('d')}}, {Kind: 2, Tx: 0, Yes: true, Reads: []int32{7}}})
	same(t, "for good", good, 1)
	log, good = c.Records(0)
	same(t, "the other's values", c.Values(0), map[byte]int32{})
	same(t, "the other's locks", c.Locks(0), map[byte]int{})
	same(t, "the other's log", len(log)+good, 0)
	same(t, "the bag", c.Bag(), []Message{
		{Kind: 1, From: -1, To: 0, Tx: 0, Ops: []Op{w('a', 5), r('b')}},
		{Kind: 1, From: -1, To: 0, Tx: 1, Ops: []Op{r('c')}},
		{Kind: 3, From: 1, To: 0, Tx: 1, Yes: true, Reads: []int32{8}},
	})
	result, reads := c.Result(0)
	same(t, "the result", result, 2)
	same(t, "its reads", reads, []int32{7})
	result, _ = c.Result(1)
	same(t, "the other's result", result, 1)
}

// P9: of one that is down the log is told, but no values and no locks.
func TestWhatIsThereOfOneThatIsDown(t *testing.T) {
	c := filled(t)
	c.shards[1].up = false
	log, good := c.Records(1)
	same(t, "the log", len(log), 2)
	same(t, "for good", good, 1)
	same(t, "up", c.Up(1), false)
	same(t, "the other is up", c.Up(0), true)
	same(t, "the values", c.Values(1), map[byte]int32{})
	same(t, "the locks", c.Locks(1), map[byte]int{})
}

// P9: of no shard and no transaction there is nothing.
func TestNothingIsThere(t *testing.T) {
	c := filled(t)
	for _, s := range append(oddNumbers(), 2, 3, 4) {
		log, good := c.Records(s)
		result, reads := c.Result(s)
		same(t, "up", c.Up(s), false)
		same(t, "the values", c.Values(s), map[byte]int32{})
		same(t, "the locks", c.Locks(s), map[byte]int{})
		same(t, "the log", len(log)+good, 0)
		same(t, "the result", result+len(reads), 0)
	}
}

// P9: what is there is told behind Stop, too; a second Stop is none.
func TestToldBehindStop(t *testing.T) {
	c := filled(t)
	ahead := taken(c)
	for range 3 {
		c.Stop()
		same(t, "behind Stop", taken(c), ahead)
	}
}

// P9: behind Stop all goroutines have ended.
func TestStopEndsGoroutines(t *testing.T) {
	ahead := runtime.NumGoroutine()
	var all []*Cluster
	for range 50 {
		all = append(all, made(t, 4))
	}
	for _, c := range all {
		submitted(t, c, r('a'))
		works(t, c.Deliver(0))
		c.Stop()
	}
	// One that has told its end may need a moment until it is counted no more.
	for range 1000 {
		if runtime.NumGoroutine() <= ahead {
			return
		}
		time.Sleep(time.Millisecond)
	}
	t.Errorf("%d goroutines, %d ahead of it", runtime.NumGoroutine(), ahead)
}

// Each shard is a goroutine that works when its channel says so, until Stop.
func TestShardsWork(t *testing.T) {
	c := made(t, 4)
	sum := 0
	for i, s := range c.shards {
		s.do(func() { sum += i + 1 })
		s.do(func() { sum += 10 })
	}
	same(t, "what was worked", sum, 50)
	c.Stop()
	for i, s := range c.shards {
		select {
		case s.work <- func() {}:
			t.Errorf("shard %d works behind Stop", i)
		default:
		}
	}
}
