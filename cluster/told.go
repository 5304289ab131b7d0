package cluster

import "maps"

// Bag tells all messages, in the order in which they were sent.
func (c *Cluster) Bag() []Message {
	var all []Message
	c.alone(func() { all = c.bag.told() })
	return all
}

// Result tells what has become of a transaction: 0 there is none, 1 pending, 2 committed (with its reads), 3 aborted.
func (c *Cluster) Result(tx int) (int, []int32) {
	result, reads := 0, []int32(nil)
	c.alone(func() {
		if c.txs.has(tx) {
			result, reads = c.txs[tx].result, fresh(c.txs[tx].reads)
		}
	})
	return result, reads
}

// Up tells whether there is such a shard, and it is up.
func (c *Cluster) Up(s int) bool {
	up := false
	c.alone(func() { up = c.hasShard(s) && c.shards[s].up })
	return up
}

// Values tells the values of a shard's keys, where they are not 0.
func (c *Cluster) Values(s int) map[byte]int32 {
	told := map[byte]int32{}
	c.alone(func() {
		if c.hasShard(s) && c.shards[s].up {
			maps.Copy(told, c.shards[s].values)
		}
	})
	maps.DeleteFunc(told, func(_ byte, value int32) bool { return value == 0 })
	return told
}

// Locks tells which of a shard's keys are locked, and by which transaction.
func (c *Cluster) Locks(s int) map[byte]int {
	told := map[byte]int{}
	c.alone(func() {
		if c.hasShard(s) && c.shards[s].up {
			maps.Copy(told, c.shards[s].locks)
		}
	})
	return told
}

// Records tells a shard's log, and how many of its records are for good.
func (c *Cluster) Records(s int) ([]Record, int) {
	var all []Record
	good := 0
	c.alone(func() {
		if !c.hasShard(s) {
			return
		}
		for _, r := range c.shards[s].log {
			all = append(all, r.told())
		}
		good = c.shards[s].good
	})
	return all, good
}

func (c *Cluster) hasShard(s int) bool {
	return s >= 0 && s < len(c.shards)
}
