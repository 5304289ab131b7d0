package cluster

import (
	"math/rand"
	"slices"
	"testing"
)

// carryOn delivers and syncs until nothing is left to do.
func carryOn(t *testing.T, c *Cluster) {
	t.Helper()
	for range 6 {
		deliver(t, c, len(c.Bag()))
		for s := range c.shards {
			works(t, c.Sync(s))
		}
	}
	bagIs(t, c, "at the end")
}

// Of transactions one behind the other each reads what those ahead of it have written, whichever shards take part.
func TestOneBehindTheOther(t *testing.T) {
	for shards := 1; shards <= 4; shards++ {
		c := made(t, shards)
		values := map[byte]int32{}
		chance := rand.New(rand.NewSource(int64(shards)))
		for range maxTransactions {
			ops := anyOps(chance, 26)
			tx := submitted(t, c, ops...)
			want := readsOf(ops, values)
			writeAll(ops, values)
			carryOn(t, c)
			result, reads := c.Result(tx)
			same(t, "the result", result, 2)
			same(t, "its reads", reads, want)
		}
		for s := range shards {
			for key, value := range c.Values(s) {
				same(t, "a value", value, values[key])
				same(t, "its shard", place(key, shards), s)
			}
			same(t, "the locks", c.Locks(s), map[byte]int{})
			same(t, "how many are under way", len(c.shards[s].underWay), 0)
		}
	}
}

// anyOps are 1 to 6 operations on different ones of the first keys.
func anyOps(chance *rand.Rand, keys int) []Op {
	var ops []Op
	for _, key := range chance.Perm(keys)[:1+chance.Intn(min(keys, maxOps))] {
		if chance.Intn(2) == 0 {
			ops = append(ops, r('a'+byte(key)))
		} else {
			ops = append(ops, w('a'+byte(key), int32(chance.Intn(9)-4)))
		}
	}
	return ops
}

func readsOf(ops []Op, values map[byte]int32) []int32 {
	var reads []int32
	for _, op := range ops {
		if !op.Write {
			reads = append(reads, values[op.Key])
		}
	}
	return reads
}

func writeAll(ops []Op, values map[byte]int32) {
	for _, op := range ops {
		if op.Write {
			values[op.Key] = op.Value
		}
	}
}

// decision is one that a home has written.
type decision struct {
	tx    int
	yes   bool
	reads []int32
	good  bool
}

// world is a cluster that is driven by chance, and what has come of it.
type world struct {
	c       *Cluster
	chance  *rand.Rand
	keys    int // how many of them it uses: with few there are many conflicts
	txs     [][]Op
	decided []decision // in the order in which they were written, without those that a crash has taken
}

func anyWorld(t *testing.T, seed int) *world {
	t.Helper()
	return &world{c: made(t, 1+seed%4), chance: rand.New(rand.NewSource(int64(seed))), keys: 6 + seed%3*10}
}

// P10: whatever is lost, doubled or late, and whoever crashes when: what a shard has is what its log tells, none does a transaction in another way than its home, and those that were decided are as if they had been carried out one behind the other. When it grows calm, all are wholly done or not at all.
func TestWorldsByChance(t *testing.T) {
	committed, aborted := 0, 0
	for seed := range 120 {
		x := anyWorld(t, seed)
		for range 400 {
			x.step(t)
			x.look(t)
		}
		x.calm(t)
		x.look(t)
		x.lookAtEnd(t)
		for tx := range x.txs {
			switch result, _ := x.c.Result(tx); result {
			case 2:
				committed++
			case 3:
				aborted++
			}
		}
		x.c.Stop()
	}
	if committed < 300 || aborted < 300 {
		t.Errorf("%d are committed, %d aborted: these worlds tell little", committed, aborted)
	}
}

// P1: the same calls answer the same, however goroutines run and maps are gone through.
func TestWorldsAreTheSame(t *testing.T) {
	for seed := range 12 {
		one, other := anyWorld(t, seed), anyWorld(t, seed)
		for range 300 {
			one.step(t)
			other.step(t)
			same(t, "the other world", taken(other.c), taken(one.c))
		}
	}
}

// step does one call; the errors that it may answer are tested elsewhere.
func (x *world) step(t *testing.T) {
	t.Helper()
	at := 0
	if many := len(x.c.Bag()); many > 0 {
		at = x.chance.Intn(many)
	}
	s := x.chance.Intn(len(x.c.shards))
	switch k := x.chance.Intn(40); {
	case k < 2:
		ops := anyOps(x.chance, x.keys)
		if _, err := x.c.Submit(ops); err == nil {
			x.txs = append(x.txs, ops)
		}
	case k < 3 && len(x.txs) > 0:
		works(t, x.c.Again(x.chance.Intn(len(x.txs))))
	case k < 23:
		_ = x.c.Deliver(at)
	case k < 24:
		_ = x.c.Drop(at)
	case k < 26:
		_ = x.c.Copy(at)
	case k < 33:
		_ = x.c.Sync(s)
	case k < 37:
		_ = x.c.Tick(s)
	case k < 38:
		_ = x.c.Crash(s, x.chance.Intn(4)-1)
	default:
		_ = x.c.Restart(s)
	}
}

// calm lets everything come to its end: nobody crashes, nothing is lost, time passes.
func (x *world) calm(t *testing.T) {
	t.Helper()
	for range 30 {
		for s := range x.c.shards {
			_ = x.c.Restart(s)
		}
		for range 5 {
			x.deliverAll(t)
			for s := range x.c.shards {
				works(t, x.c.Sync(s))
			}
		}
		for tx := range x.txs {
			if result, _ := x.c.Result(tx); result == 1 {
				works(t, x.c.Again(tx))
			}
		}
		for s := range x.c.shards {
			x.deliverAll(t)
			works(t, x.c.Tick(s))
		}
	}
}

func (x *world) deliverAll(t *testing.T) {
	t.Helper()
	for range x.c.Bag() {
		works(t, x.c.Deliver(0))
		x.noteDecisions(t)
	}
}

func (x *world) look(t *testing.T) {
	t.Helper()
	x.noteDecisions(t)
	x.lookAtDecisions(t)
	for s := range x.c.shards {
		x.lookAtShard(t, s)
	}
	x.lookAtResults(t)
}

// noteDecisions: each transaction is decided once, by its home; of one that was for good nothing changes any more.
func (x *world) noteDecisions(t *testing.T) {
	t.Helper()
	there := map[int]decision{}
	for s := range x.c.shards {
		log, good := x.c.Records(s)
		for i, one := range log {
			if one.Kind != 2 {
				continue
			}
			if _, twice := there[one.Tx]; twice || place(x.txs[one.Tx][0].Key, len(x.c.shards)) != s {
				t.Fatalf("transaction %d is decided twice, or not at its home", one.Tx)
			}
			there[one.Tx] = decision{one.Tx, one.Yes, one.Reads, i < good}
		}
	}
	var still []decision
	for _, d := range x.decided {
		now, is := there[d.tx]
		if d.good {
			same(t, "what was decided for good", now, d)
		}
		if is {
			still = append(still, now)
			delete(there, d.tx)
		}
	}
	if len(there) > 1 {
		t.Fatalf("one call has decided %d transactions", len(there))
	}
	for _, d := range there {
		still = append(still, d)
	}
	x.decided = still
}

// lookAtDecisions: each one's reads are what those ahead of it have written.
func (x *world) lookAtDecisions(t *testing.T) {
	t.Helper()
	values := map[byte]int32{}
	for _, d := range x.decided {
		if d.yes {
			same(t, "the reads", d.reads, readsOf(x.txs[d.tx], values))
			writeAll(x.txs[d.tx], values)
		}
	}
}

// decidedForGood tells how a transaction was, if it was.
func (x *world) decidedForGood(tx int) (decision, bool) {
	at := slices.IndexFunc(x.decided, func(d decision) bool { return d.tx == tx && d.good })
	if at < 0 {
		return decision{}, false
	}
	return x.decided[at], true
}

// lookAtShard: values and locks are as the log tells, and the shard has done nothing in another way than was decided for good.
func (x *world) lookAtShard(t *testing.T, s int) {
	t.Helper()
	log, good := x.c.Records(s)
	if good < 0 || good > len(log) {
		t.Fatalf("%d of %d records are for good", good, len(log))
	}
	values, locks, parts := map[byte]int32{}, map[byte]int{}, map[int][]Op{}
	for _, one := range log {
		switch one.Kind {
		case 1:
			parts[one.Tx] = one.Ops
			for _, op := range one.Ops {
				locks[op.Key] = one.Tx
			}
		case 3:
			if d, is := x.decidedForGood(one.Tx); !is || d.yes != one.Yes {
				t.Fatalf("shard %d has done transaction %d: %v, decided: %v, %v", s, one.Tx, one.Yes, is, d.yes)
			}
			if one.Yes {
				writeAll(parts[one.Tx], values)
			}
			for _, op := range parts[one.Tx] {
				delete(locks, op.Key)
			}
		}
	}
	if !x.c.Up(s) {
		values, locks = map[byte]int32{}, map[byte]int{}
	}
	same(t, "the values", x.c.Values(s), withoutZeros(values))
	same(t, "the locks", x.c.Locks(s), locks)
}

func withoutZeros(values map[byte]int32) map[byte]int32 {
	left := map[byte]int32{}
	for key, value := range values {
		if value != 0 {
			left[key] = value
		}
	}
	return left
}

// lookAtResults: the client is told what was decided, for good.
func (x *world) lookAtResults(t *testing.T) {
	t.Helper()
	for tx := range x.txs {
		result, reads := x.c.Result(tx)
		d, is := x.decidedForGood(tx)
		switch {
		case result == 1:
		case is && result == 2 && d.yes:
			same(t, "the result's reads", reads, d.reads)
		case is && result == 3 && !d.yes:
		default:
			t.Fatalf("transaction %d: result %d, decided: %v, %v", tx, result, is, d.yes)
		}
	}
}

// lookAtEnd: all is decided and told, nothing is locked, and the values are what the committed ones have written, none of it lost.
func (x *world) lookAtEnd(t *testing.T) {
	t.Helper()
	want, got := map[byte]int32{}, map[byte]int32{}
	for _, d := range x.decided {
		if d.yes {
			writeAll(x.txs[d.tx], want)
		}
	}
	for s, one := range x.c.shards {
		same(t, "the locks at the end", x.c.Locks(s), map[byte]int{})
		same(t, "how many are under way at the end", len(one.underWay), 0)
		for key, value := range x.c.Values(s) {
			same(t, "a key's shard", place(key, len(x.c.shards)), s)
			got[key] = value
		}
	}
	same(t, "the values at the end", got, withoutZeros(want))
	for tx := range x.txs {
		if result, _ := x.c.Result(tx); result != 2 && result != 3 {
			t.Errorf("transaction %d at the end: result %d", tx, result)
		}
	}
	bagIs(t, x.c, "at the end")
}
