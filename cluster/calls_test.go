package cluster

import (
	"errors"
	"slices"
	"sync"
	"testing"
)

// P1: every method that can fail is refused behind Stop, ahead of all else, and changes nothing.
func TestRefusedBehindStop(t *testing.T) {
	c := filled(t)
	works(t, c.Sync(0), c.Tick(1), c.Again(0))
	ahead := taken(c)
	c.Stop()
	for _, at := range append(oddNumbers(), 0, 1, 2, 3, 4, 60) {
		for call, do := range numbered(c) {
			refused(t, do(at), ErrStopped, call, at)
		}
	}
	for _, ops := range [][]Op{nil, {r('a')}, {r('a'), r('a')}} {
		tx, err := c.Submit(ops)
		same(t, "the number behind Stop", tx, 0)
		refused(t, err, ErrStopped, "Submit", 0)
	}
	same(t, "behind Stop", taken(c), ahead)
}

// P1: with an error nothing has changed.
func TestErrorsChangeNothing(t *testing.T) {
	c := filled(t)
	ahead := taken(c)
	for _, at := range oddNumbers() {
		refused(t, c.Again(at), ErrTx, "Again", at)
		refused(t, c.Deliver(at), ErrMessage, "Deliver", at)
		refused(t, c.Drop(at), ErrMessage, "Drop", at)
		refused(t, c.Copy(at), ErrMessage, "Copy", at)
		refused(t, c.Sync(at), ErrShard, "Sync", at)
		refused(t, c.Tick(at), ErrShard, "Tick", at)
		refused(t, c.Crash(at, 1), ErrShard, "Crash", at)
		refused(t, c.Restart(at), ErrShard, "Restart", at)
	}
	tx, err := c.Submit([]Op{r('a'), r('a')})
	same(t, "the number with an error", tx, 0)
	refused(t, err, ErrOps, "Submit", 0)
	same(t, "behind the errors", taken(c), ahead)
}

// P1: no call panics, also where New made no cluster; there nobody works.
func TestNoClusterAtAll(t *testing.T) {
	for _, c := range []*Cluster{nil, {}} {
		for range 2 {
			for _, at := range append(oddNumbers(), 0, 1) {
				for call, do := range numbered(c) {
					refused(t, do(at), ErrStopped, call, at)
				}
				c.Result(at)
				c.Records(at)
				if c.Up(at) || c.Values(at) == nil || c.Locks(at) == nil {
					t.Errorf("shard %d of no cluster", at)
				}
			}
			_, err := c.Submit([]Op{r('a')})
			refused(t, err, ErrStopped, "Submit", 0)
			same(t, "the bag of no cluster", len(c.Bag()), 0)
			c.Stop()
		}
	}
}

// P1: every number is taken, of whatever call.
func TestOddNumbers(t *testing.T) {
	c := filled(t)
	for _, at := range oddNumbers() {
		for _, do := range numbered(c) {
			_ = do(at)
		}
		result, reads := c.Result(at)
		log, good := c.Records(at)
		if result != 0 || len(reads) != 0 || c.Up(at) || len(c.Values(at)) != 0 || len(c.Locks(at)) != 0 || len(log) != 0 || good != 0 {
			t.Errorf("something at %d", at)
		}
	}
}

// P1: arguments are only read, and not kept.
func TestArgumentsStayTheCallers(t *testing.T) {
	c := made(t, 2)
	room := []Op{w('b', 5), r('a'), r('x')}
	ops := room[:2]
	works(t, c.Drop(submitted(t, c, ops...)))
	same(t, "the argument", room, []Op{w('b', 5), r('a'), r('x')})
	ops[0], ops[1] = w('q', 1), w('r', 2)
	works(t, c.Again(0), c.Copy(0))
	for _, m := range c.Bag() {
		same(t, "the operations", m.Ops, []Op{w('b', 5), r('a')})
	}
}

// P1: lists and maps that are answered are new.
func TestAnswersAreNew(t *testing.T) {
	c, twin := filled(t), filled(t) // a picture of c itself would change with what it shares
	works(t, c.Copy(0), c.Copy(2), twin.Copy(0), twin.Copy(2))
	bag := c.Bag()
	bag[0].Ops[0], bag[2].Reads[0] = w('q', 1), 77
	same(t, "a copy in the same answer", bag[3].Ops[0], w('a', 5))
	same(t, "a copy in the same answer", bag[4].Reads[0], int32(8))
	bag[1] = Message{}
	_ = append(bag[0].Ops[:1], w('q', 1))
	_, reads := c.Result(0)
	reads[0] = 77
	c.Values(1)['b'] = 77
	c.Values(0)['a'] = 77
	c.Locks(1)['d'] = 77
	c.Locks(0)['c'] = 77
	log, _ := c.Records(1)
	log[0].Ops[0], log[1].Reads[0] = w('q', 1), 77
	log[0] = Record{}
	same(t, "behind the changes", taken(c), taken(twin))
}

// P1: also while a transaction goes its way: whoever spoils all answers spoils nothing else, nor another list of the same answer.
func TestSpoiltAnswers(t *testing.T) {
	c, twin := made(t, 2), made(t, 2)
	for _, one := range []*Cluster{c, twin} {
		submitted(t, one, w('b', 5), r('a'), w('c', 1), r('d'))
		submitted(t, one, r('d'), r('e'))
	}
	for step := range 40 {
		for _, one := range []*Cluster{c, twin} {
			_ = one.Copy(step % 3)
			_ = one.Deliver(step % 2)
			works(t, one.Sync(step/2%2))
		}
		spoilt(t, c)
		same(t, "behind the spoiling", taken(c), taken(twin))
	}
	result, reads := c.Result(0)
	same(t, "the result", result, 2)
	same(t, "its reads", reads, []int32{0, 0})
	for s := range c.shards {
		for _, one := range []*Cluster{c, twin} {
			works(t, one.Crash(s, s), one.Restart(s))
		}
		spoilt(t, c)
		same(t, "what the log tells", taken(c), taken(twin))
	}
}

// spoilt writes something of its own into every list and map that is answered, and looks whether it is there still.
func spoilt(t *testing.T, c *Cluster) {
	t.Helper()
	ops, reads := [][]Op{}, [][]int32{}
	for _, m := range c.Bag() {
		ops, reads = append(ops, m.Ops), append(reads, m.Reads)
	}
	for s := range c.shards {
		log, _ := c.Records(s)
		for _, one := range log {
			ops, reads = append(ops, one.Ops), append(reads, one.Reads)
		}
		c.Values(s)['q'], c.Locks(s)['q'] = 77, 77
	}
	for tx := range maxTransactions {
		_, l := c.Result(tx)
		reads = append(reads, l)
	}
	for i := range ops {
		for k := range ops[i] {
			ops[i][k] = w('q', int32(i))
		}
	}
	for i := range reads {
		for k := range reads[i] {
			reads[i][k] = int32(i)
		}
	}
	for i := range ops {
		for k := range ops[i] {
			same(t, "a spoilt operation", ops[i][k], w('q', int32(i)))
		}
	}
	for i := range reads {
		for k := range reads[i] {
			same(t, "a spoilt read", reads[i][k], int32(i))
		}
	}
}

// P1: what is answered is the same however goroutines run: calls at the same time come one behind the other.
func TestCallsAtTheSameTime(t *testing.T) {
	for range 50 {
		c := made(t, 4)
		numbers := make([]int, maxTransactions)
		start := make(chan struct{})
		var all sync.WaitGroup
		for i := range numbers {
			all.Add(1)
			go func() {
				defer all.Done()
				<-start
				numbers[i], _ = c.Submit([]Op{r('a' + byte(i%26))})
				_ = c.Copy(0)
				_ = c.Deliver(0)
				_ = c.Sync(i % 4)
				_ = c.Tick(i % 4)
				_ = c.Crash(i%4, 1)
				_ = c.Restart(i % 4)
				c.Bag()
				c.Result(i)
				c.Values(i % 4)
			}()
		}
		close(start)
		all.Wait()
		slices.Sort(numbers)
		for i, tx := range numbers {
			same(t, "a number", tx, i)
		}
	}
}

// P1: Stop at the same time as other calls: these are done, or refused.
func TestStopAtTheSameTime(t *testing.T) {
	c := made(t, 3)
	var all sync.WaitGroup
	for range 8 {
		all.Add(1)
		go func() {
			defer all.Done()
			for range 5 {
				if _, err := c.Submit([]Op{r('a')}); err != nil && !errors.Is(err, ErrStopped) {
					t.Errorf("Submit: %v", err)
				}
				_ = c.Deliver(0)
				_ = c.Crash(0, 0)
				_ = c.Restart(0)
				_ = c.Tick(0)
			}
			c.Stop()
		}()
	}
	all.Wait()
	refused(t, c.Again(0), ErrStopped, "Again", 0)
}

// P1: an error of a method tells the method, the number, and its cause.
func TestCallError(t *testing.T) {
	e := &CallError{Call: "Drop", At: -3, Err: ErrMessage}
	same(t, "its cause", e.Unwrap(), ErrMessage)
	same(t, "its text", e.Error(), "Drop(-3): no such message")
	same(t, "the text without a cause", (&CallError{Call: "Tick", At: 2}).Error(), "Tick(2)")
	same(t, "no cause", (&CallError{}).Unwrap(), nil)
	var none *CallError
	same(t, "the text of no error", none.Error(), "")
	same(t, "the cause of no error", none.Unwrap(), nil)
}

func TestErrorsAreDifferent(t *testing.T) {
	all := []error{ErrShape, ErrOps, ErrMany, ErrTx, ErrMessage, ErrShard, ErrDown, ErrUp, ErrStopped}
	for i, e := range all {
		if e == nil || slices.Index(all, e) != i || errors.Is(ErrShape, e) != (i == 0) {
			t.Errorf("error %d: %v", i, e)
		}
	}
}
