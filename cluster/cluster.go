// Package cluster: transactions over shards that may crash: see DOC.md.
package cluster

import "sync"

// Op reads a key, or writes a value to it.
type Op struct {
	Write bool
	Key   byte
	Value int32
}

// Message is one in the bag: Kind 1 begin, 2 prepare, 3 vote, 4 decide, 5 ack, 6 ask, 7 reply.
type Message struct {
	Kind, From, To, Tx int
	Yes                bool
	Ops                []Op
	Reads              []int32
}

// Record is one of a log: Kind 1 prepared, 2 decided, 3 done.
type Record struct {
	Kind, Tx int
	Yes      bool
	Home     int
	Ops      []Op
	Reads    []int32
}

// Cluster is some shards, a client, a bag of messages.
type Cluster struct {
	mutex  sync.Mutex // one call at a time
	shards []*shard
	txs    transactions
	bag    bag
	done   chan struct{} // closed by Stop: ends the shards' goroutines
	alive  sync.WaitGroup
}

// New makes a cluster of 1 to 4 shards, all up and empty.
func New(shards int) (*Cluster, error) {
	if shards < 1 || shards > maxShards {
		return nil, ErrShape
	}
	c := &Cluster{done: make(chan struct{})}
	for number := range shards {
		s := newShard(number, shards)
		c.shards = append(c.shards, s)
		c.alive.Add(1)
		go func() {
			defer c.alive.Done()
			s.live(c.done)
		}()
	}
	return c, nil
}

// Submit takes a transaction and sends its begin; it answers the transaction's number.
func (c *Cluster) Submit(ops []Op) (int, error) {
	tx := 0
	err := c.call("Submit", 0, func() error {
		if !isTransaction(ops) {
			return ErrOps
		}
		if c.txs.full() || c.bag.full() {
			return ErrMany
		}
		tx = c.txs.add(ops)
		c.bag.put(c.txs.beginOf(tx, len(c.shards)))
		return nil
	})
	return tx, err
}

// Again sends the begin of a transaction once more.
func (c *Cluster) Again(tx int) error {
	return c.call("Again", tx, func() error {
		if !c.txs.has(tx) {
			return ErrTx
		}
		if c.bag.full() {
			return ErrMany
		}
		c.bag.put(c.txs.beginOf(tx, len(c.shards)))
		return nil
	})
}

// Deliver takes message i out of the bag to whom it is for.
func (c *Cluster) Deliver(i int) error {
	return c.call("Deliver", i, func() error {
		if !c.bag.has(i) {
			return ErrMessage
		}
		m := c.bag.take(i)
		if m.receiver() == client {
			c.txs.hear(m)
			return nil
		}
		s := c.shards[m.receiver()]
		c.bag.put(s.do(func() { s.takeIn(m) })...)
		return nil
	})
}

// Drop loses message i.
func (c *Cluster) Drop(i int) error {
	return c.call("Drop", i, func() error {
		if !c.bag.has(i) {
			return ErrMessage
		}
		c.bag.take(i)
		return nil
	})
}

// Copy puts one more like message i behind all others.
func (c *Cluster) Copy(i int) error {
	return c.call("Copy", i, func() error {
		if !c.bag.has(i) {
			return ErrMessage
		}
		if c.bag.full() {
			return ErrMany
		}
		c.bag.put(c.bag[i])
		return nil
	})
}

// Sync writes a shard's records to its disk for good, and sends what has waited for that.
func (c *Cluster) Sync(s int) error {
	return c.shardCall("Sync", s, (*shard).mustBeUp, (*shard).sync)
}

// Tick lets a shard's clock go on by one, and its timers go off whose time has come.
func (c *Cluster) Tick(s int) error {
	return c.shardCall("Tick", s, c.mayTick, (*shard).tick)
}

// Crash takes a shard down; of its records that are not for good it has the first keep still.
func (c *Cluster) Crash(s int, keep int) error {
	return c.shardCall("Crash", s, (*shard).mustBeUp, func(one *shard) { one.crash(keep) })
}

// Restart brings a shard up that is down; it knows what its log tells.
func (c *Cluster) Restart(s int) error {
	return c.shardCall("Restart", s, (*shard).mustBeDown, (*shard).restart)
}

// Stop ends all goroutines, and waits for their end.
func (c *Cluster) Stop() {
	c.alone(func() {
		if c.stopped() {
			return
		}
		close(c.done)
		c.alive.Wait()
	})
}

// call does the work of a method that is refused behind Stop, and says of an error whose it is.
func (c *Cluster) call(name string, at int, work func() error) error {
	err := ErrStopped
	c.alone(func() {
		if !c.stopped() {
			err = work()
		}
	})
	if err == nil {
		return nil
	}
	return &CallError{Call: name, At: at, Err: err}
}

// shardCall does the work of a method with a shard, which its goroutine does. Whether it may is asked ahead of it, so that with an error nothing has changed.
func (c *Cluster) shardCall(name string, at int, may func(*shard) error, work func(*shard)) error {
	return c.call(name, at, func() error {
		if !c.hasShard(at) {
			return ErrShard
		}
		s := c.shards[at]
		if err := may(s); err != nil {
			return err
		}
		c.bag.put(s.do(func() { work(s) })...)
		return nil
	})
}

// mayTick: time must not fill a bag that is hardly emptied.
func (c *Cluster) mayTick(s *shard) error {
	if err := s.mustBeUp(); err != nil {
		return err
	}
	if c.bag.busy() {
		return ErrMany
	}
	return nil
}

// alone does something while no other call does anything; without a cluster there is nothing to do.
func (c *Cluster) alone(do func()) {
	if c == nil {
		return
	}
	c.mutex.Lock()
	defer c.mutex.Unlock()
	do()
}

// stopped is true also of a cluster that New did not make: nobody would work there.
func (c *Cluster) stopped() bool {
	if c.done == nil {
		return true
	}
	select {
	case <-c.done:
		return true
	default:
		return false
	}
}
