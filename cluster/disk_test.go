package cluster

import "testing"

// P7: there is nothing to sync where no shard is, nor at one that is down.
func TestSyncRefused(t *testing.T) {
	onlyOfShards(t, "Sync", (*Cluster).Sync)
	c := preparedHere(t)
	works(t, c.Crash(1, 1))
	ahead := taken(c)
	refused(t, c.Sync(1), ErrDown, "Sync", 1)
	refused(t, c.Sync(2), ErrShard, "Sync", 2)
	same(t, "behind it", taken(c), ahead)
	works(t, c.Sync(0), c.Restart(1), c.Sync(1))
}

// P7: behind a sync all records are for good, of this shard alone, and what has waited is in the bag, once, in its order.
func TestSync(t *testing.T) {
	c := preparedHere(t)
	comes(t, c, prepare{letter{0, 0, 0}, []Op{r('a')}})
	comes(t, c, ask{letter{0, 1, 5}})
	comes(t, c, decide{letter{0, 1, 0}, true})
	submitted(t, c, r('c'))
	log, good := c.Records(1)
	same(t, "the records", len(log), 3)
	same(t, "for good", good, 0)
	for range 3 {
		works(t, c.Sync(1))
		logIs(t, c, 1, 3, log...)
		logIs(t, c, 0, 0, isPrepared(0, 0, r('a')))
		bagIs(t, c, "behind the sync",
			Message{Kind: 1, From: -1, To: 0, Tx: 0, Ops: []Op{r('c')}},
			voteYes(1, 0, 0, 7, 0), toDecide(1, 0, 5, false), toAck(1, 0, 0))
	}
	comes(t, c, decide{letter{0, 1, 8}, false})
	works(t, c.Sync(1))
	logIs(t, c, 1, 4, append(log, isDone(8, false))...)
	same(t, "the bag", c.Bag()[4:], []Message{toAck(1, 0, 8)})
}

// P7: no bag is too full for what has waited.
func TestSyncIntoFullBag(t *testing.T) {
	c := preparedHere(t)
	submitted(t, c, r('c'))
	full(t, c)
	works(t, c.Sync(1))
	same(t, "the bag", c.Bag()[400:], []Message{voteYes(1, 0, 0, 7, 0)})
}
