package cluster

import (
	"math/rand"
	"slices"
	"testing"
)

// carryOn delivers and syncs until nothing is left to do.
func carryOn(t *testing.T, c *Cluster) {
	t.Helper()
	for range 6 {
		deliver(t, c, len(c.Bag()))
		for s := range c.shards {
			works(t, c.Sync(s))
		}
	}
	bagIs(t, c, "at the end")
}

// Of transactions one behind the other each reads what those ahead of it have written, whichever shards take part.
func TestOneBehindTheOther(t *testing.T) {
	for shards := 1; shards <= 4; shards++ {
		c := made(t, shards)
		values := map[byte]int32{}
		chance := rand.New(rand.NewSource(int64(shards)))
		for range maxTransactions {
			ops := anyOps(chance, 26)
			tx := submitted(t, c, ops...)
			want := readsOf(ops, values)
			writeAll(ops, values)
			carryOn(t, c)
			result, reads := c.Result(tx)
			same(t, "the result", result, 2)
			same(t, "its reads", reads, want)
		}
		for s := range shards {
			for key, value := range c.Values(s) {
				same(t, "a value", value, values[key])
				same(t, "its shard", place(key, shards), s)
			}
			same(t, "the locks", c.Locks(s), map[byte]int{})
			same(t, "how many are under way", len(c.shards[s].underWay), 0)
		}
	}
}

// anyOps are 1 to 6 operations on different ones of the first keys.
func anyOps(chance *rand.Rand, keys int) []Op {
	var ops []Op
	for _, key := range chance.Perm(keys)[:1+chance.Intn(min(keys, maxOps))] {
		if chance.Intn(2) == 0 {
			ops = append(ops, r('a'+byte(key)))
		} else {
			ops = append(ops, w('a'+byte(key), int32(chance.Intn(9)-4)))
		}
	}
	return ops
}

func readsOf(ops []Op, values map[byte]int32) []int32 {
	var reads []int32
	for _, op := range ops {
		if !op.Write {
			reads = append(reads, values[op.Key])
		}
	}
	return reads
}

func writeAll(ops []Op, values map[byte]int32) {
	for _, op := range ops {
		if op.Write {
			values[op.Key] = op.Value
		}
	}
}

// world is a cluster that is driven by chance, and what has come of it.
type world struct {
	c      *Cluster
	chance *rand.Rand
	txs    [][]Op
	values map[byte]int32 // as if the transactions had been carried out in the order in which they were decided
	ends   map[int]bool   // how they were decided
	reads  map[int][]int32
}

// Whatever is lost, doubled or late: what a shard has is what its log tells, and what was decided is as if it had been carried out one behind the other.
func TestWorldsByChance(t *testing.T) {
	for seed := range 60 {
		chance := rand.New(rand.NewSource(int64(seed)))
		x := &world{c: made(t, 1+seed%4), chance: chance, values: map[byte]int32{}, ends: map[int]bool{}, reads: map[int][]int32{}}
		for range 400 {
			x.step(t)
			x.lookAtDecisions(t)
			x.lookAtShards(t)
			x.lookAtResults(t)
		}
		x.c.Stop()
	}
}

// step does one call; the errors that it may answer are tested elsewhere.
func (x *world) step(t *testing.T) {
	t.Helper()
	at := 0
	if many := len(x.c.Bag()); many > 0 {
		at = x.chance.Intn(many)
	}
	switch k := x.chance.Intn(20); {
	case k < 2:
		ops := anyOps(x.chance, 8)
		if _, err := x.c.Submit(ops); err == nil {
			x.txs = append(x.txs, ops)
		}
	case k < 3 && len(x.txs) > 0:
		works(t, x.c.Again(x.chance.Intn(len(x.txs))))
	case k < 14:
		_ = x.c.Deliver(at)
	case k < 15:
		_ = x.c.Drop(at)
	case k < 16:
		_ = x.c.Copy(at)
	default:
		works(t, x.c.Sync(x.chance.Intn(len(x.c.shards))))
	}
}

// lookAtDecisions: each transaction is decided once, by its home, with reads of what those ahead of it have written.
func (x *world) lookAtDecisions(t *testing.T) {
	t.Helper()
	for s := range x.c.shards {
		log, _ := x.c.Records(s)
		known := map[int]bool{}
		for _, one := range log {
			if one.Kind != 2 {
				continue
			}
			ops := x.txs[one.Tx]
			if known[one.Tx] || place(ops[0].Key, len(x.c.shards)) != s {
				t.Fatalf("transaction %d is decided twice, or not at its home", one.Tx)
			}
			known[one.Tx] = true
			if _, is := x.ends[one.Tx]; is {
				continue
			}
			x.ends[one.Tx] = one.Yes
			if one.Yes {
				same(t, "the reads", one.Reads, readsOf(ops, x.values))
				x.reads[one.Tx] = one.Reads
				writeAll(ops, x.values)
			}
		}
	}
}

// lookAtShards: values, locks and ends are as the log tells, and no shard ends a transaction in another way than its home.
func (x *world) lookAtShards(t *testing.T) {
	t.Helper()
	for s := range x.c.shards {
		log, good := x.c.Records(s)
		if good < 0 || good > len(log) {
			t.Fatalf("%d of %d records are for good", good, len(log))
		}
		values, locks, parts := map[byte]int32{}, map[byte]int{}, map[int][]Op{}
		for _, one := range log {
			switch one.Kind {
			case 1:
				parts[one.Tx] = one.Ops
				for _, op := range one.Ops {
					locks[op.Key] = one.Tx
				}
			case 3:
				same(t, "how it ended", one.Yes, x.ends[one.Tx])
				if one.Yes {
					writeAll(parts[one.Tx], values)
				}
				for _, op := range parts[one.Tx] {
					delete(locks, op.Key)
				}
			}
		}
		for key, value := range values {
			if value == 0 {
				delete(values, key)
			}
		}
		same(t, "the values", x.c.Values(s), values)
		same(t, "the locks", x.c.Locks(s), locks)
	}
}

// lookAtResults: the client is told what was decided.
func (x *world) lookAtResults(t *testing.T) {
	t.Helper()
	for tx := range x.txs {
		result, reads := x.c.Result(tx)
		yes, is := x.ends[tx]
		switch {
		case result == 1:
		case is && result == 2 && yes:
			same(t, "the result's reads", slices.Clone(reads), slices.Clone(x.reads[tx]))
		case is && result == 3 && !yes:
		default:
			t.Fatalf("transaction %d: result %d, decided: %v, %v", tx, result, is, yes)
		}
	}
}
