package cluster

import "testing"

// preparedHere is a cluster of 2 shards; at the second, transaction 0 of home 0 is prepared, but not for good.
func preparedHere(t *testing.T) *Cluster {
	t.Helper()
	c := made(t, 2)
	c.shards[1].values['b'] = 7
	c.shards[1].values['d'] = -7
	comes(t, c, prepare{letter{0, 1, 0}, partOfZero()})
	return c
}

func partOfZero() []Op { return []Op{w('d', 3), r('b'), w('f', 0), r('h')} }

// P6: a prepare locks all keys and writes its record; its vote, with the values as they are, waits for the disk.
func TestPrepare(t *testing.T) {
	c := preparedHere(t)
	bagIs(t, c, "ahead of the sync")
	logIs(t, c, 1, 0, isPrepared(0, 0, partOfZero()...))
	same(t, "the locks", c.Locks(1), map[byte]int{'b': 0, 'd': 0, 'f': 0, 'h': 0})
	same(t, "the values", c.Values(1), map[byte]int32{'b': 7, 'd': -7})
	works(t, c.Sync(0))
	bagIs(t, c, "behind the other's sync")
	works(t, c.Sync(1))
	bagIs(t, c, "behind its sync", voteYes(1, 0, 0, 7, 0))
	logIs(t, c, 1, 1, isPrepared(0, 0, partOfZero()...))
}

// P6: a vote of a part that only writes has no reads.
func TestPrepareWithoutReads(t *testing.T) {
	c := made(t, 3)
	comes(t, c, prepare{letter{2, 0, 4}, []Op{w('a', 1), w('d', 2)}})
	works(t, c.Sync(0))
	bagIs(t, c, "behind its sync", voteYes(0, 2, 4))
	logIs(t, c, 0, 1, isPrepared(4, 2, w('a', 1), w('d', 2)))
}

// P6: a prepare of one that is prepared: a vote with the values as they are, if its record is for good; else nothing.
func TestPrepareAgain(t *testing.T) {
	c := preparedHere(t)
	again := prepare{letter{0, 1, 0}, partOfZero()}
	comes(t, c, again)
	bagIs(t, c, "not for good")
	works(t, c.Sync(1))
	bagIs(t, c, "for good", voteYes(1, 0, 0, 7, 0))
	c.shards[1].values['h'] = 2
	comes(t, c, again)
	bagIs(t, c, "once more", voteYes(1, 0, 0, 7, 0), voteYes(1, 0, 0, 7, 2))
	works(t, c.Sync(1))
	same(t, "the bag", len(c.Bag()), 2)
	logIs(t, c, 1, 1, isPrepared(0, 0, partOfZero()...))
	same(t, "its timers", c.shards[1].timers.Len(), 1)
}

// P6: a prepare of one that is done: a vote no, if it was done with no, for good or not; else nothing.
func TestPrepareDone(t *testing.T) {
	for _, yes := range []bool{false, true} {
		c := preparedHere(t)
		comes(t, c, decide{letter{0, 1, 0}, yes})
		locks, log := c.Locks(1), []Record{isPrepared(0, 0, partOfZero()...), isDone(0, yes)}
		var want []Message
		if !yes {
			want = []Message{voteNo(1, 0, 0)}
		}
		for _, good := range []int{0, 2} {
			comes(t, c, prepare{letter{0, 1, 0}, partOfZero()})
			bagIs(t, c, "behind a prepare", want...)
			logIs(t, c, 1, good, log...)
			same(t, "the locks", c.Locks(1), locks)
			works(t, c.Sync(1))
			for len(c.Bag()) > 0 {
				works(t, c.Drop(0))
			}
		}
	}
}

// P6: if one key is locked, by a read or a write, it is answered at once: no; nothing is locked or written.
func TestPrepareLocked(t *testing.T) {
	for _, ops := range [][]Op{
		{r('d')}, {w('d', 1)}, {r('b')}, {w('b', 1)}, {w('j', 1), r('l'), w('f', 2)}, {r('h'), w('l', 1)},
	} {
		c := preparedHere(t)
		ahead := taken(c)
		comes(t, c, prepare{letter{0, 1, 1}, ops})
		bagIs(t, c, "behind the prepare", voteNo(1, 0, 1))
		works(t, c.Drop(0))
		same(t, "the shard", taken(c), ahead)
		same(t, "its timers", c.shards[1].timers.Len(), 1)
		comes(t, c, prepare{letter{0, 1, 2}, []Op{w('j', 1), r('l')}})
		same(t, "the locks", len(c.Locks(1)), 6)
	}
}

// P6: one that was answered with no is prepared when its keys are free.
func TestPrepareWhenFree(t *testing.T) {
	c := preparedHere(t)
	comes(t, c, prepare{letter{0, 1, 1}, []Op{r('d'), r('f')}})
	comes(t, c, decide{letter{0, 1, 0}, true})
	works(t, c.Drop(0))
	comes(t, c, prepare{letter{0, 1, 1}, []Op{r('d'), r('f')}})
	same(t, "the locks", c.Locks(1), map[byte]int{'d': 1, 'f': 1})
	works(t, c.Sync(1))
	bagIs(t, c, "what was held", voteYes(1, 0, 0, 7, 0), toAck(1, 0, 0), voteYes(1, 0, 1, 3, 0))
}

// P6: a decide yes of one that is prepared: its writes are values, its locks free; its ack waits for the disk.
func TestDecideYes(t *testing.T) {
	c := preparedHere(t)
	comes(t, c, prepare{letter{0, 1, 1}, []Op{w('j', 1)}})
	works(t, c.Sync(1), c.Drop(0), c.Drop(0))
	c.shards[1].values['f'] = 4
	comes(t, c, decide{letter{0, 1, 0}, true})
	same(t, "the values", c.Values(1), map[byte]int32{'b': 7, 'd': 3})
	same(t, "the locks", c.Locks(1), map[byte]int{'j': 1})
	log := []Record{isPrepared(0, 0, partOfZero()...), isPrepared(1, 0, w('j', 1)), isDone(0, true)}
	logIs(t, c, 1, 2, log...)
	bagIs(t, c, "ahead of the sync")
	works(t, c.Sync(1))
	bagIs(t, c, "behind it", toAck(1, 0, 0))
	logIs(t, c, 1, 3, log...)
}

// P6: a decide no of one that is prepared: its locks are free, nothing else.
func TestDecideNo(t *testing.T) {
	c := preparedHere(t)
	works(t, c.Sync(1), c.Drop(0))
	comes(t, c, decide{letter{0, 1, 0}, false})
	same(t, "the values", c.Values(1), map[byte]int32{'b': 7, 'd': -7})
	same(t, "the locks", c.Locks(1), map[byte]int{})
	bagIs(t, c, "ahead of the sync")
	works(t, c.Sync(1))
	bagIs(t, c, "behind it", toAck(1, 0, 0))
	logIs(t, c, 1, 2, isPrepared(0, 0, partOfZero()...), isDone(0, false))
}

// P6: a decide of one that is done: an ack at once, if its record is for good; else nothing.
func TestDecideDone(t *testing.T) {
	for _, yes := range []bool{false, true} {
		c := preparedHere(t)
		works(t, c.Sync(1), c.Drop(0))
		comes(t, c, decide{letter{0, 1, 0}, yes})
		values := c.Values(1)
		log := []Record{isPrepared(0, 0, partOfZero()...), isDone(0, yes)}
		comes(t, c, decide{letter{0, 1, 0}, yes})
		bagIs(t, c, "not for good")
		works(t, c.Sync(1))
		bagIs(t, c, "for good", toAck(1, 0, 0))
		for _, other := range []bool{yes, !yes} { // how it was done, stays
			comes(t, c, decide{letter{0, 1, 0}, other})
		}
		bagIs(t, c, "once more", toAck(1, 0, 0), toAck(1, 0, 0), toAck(1, 0, 0))
		logIs(t, c, 1, 2, log...)
		same(t, "the values", c.Values(1), values)
		same(t, "the locks", c.Locks(1), map[byte]int{})
	}
}

// P6: a decide no of one that is neither prepared nor done is done; a prepare behind it is answered with no.
func TestDecideNoUnprepared(t *testing.T) {
	c := made(t, 2)
	comes(t, c, decide{letter{0, 1, 0}, false})
	comes(t, c, decide{letter{0, 1, 0}, false})
	bagIs(t, c, "ahead of the sync")
	logIs(t, c, 1, 0, isDone(0, false))
	comes(t, c, prepare{letter{0, 1, 0}, partOfZero()})
	bagIs(t, c, "behind a prepare", voteNo(1, 0, 0))
	works(t, c.Sync(1))
	bagIs(t, c, "behind the sync", voteNo(1, 0, 0), toAck(1, 0, 0))
	logIs(t, c, 1, 1, isDone(0, false))
	same(t, "the locks", c.Locks(1), map[byte]int{})
}

// P6: a decide yes of one that is neither prepared nor done does nothing.
func TestDecideYesUnprepared(t *testing.T) {
	c := made(t, 2)
	comes(t, c, decide{letter{0, 1, 0}, true})
	works(t, c.Sync(1))
	bagIs(t, c, "behind it")
	logIs(t, c, 1, 0)
	comes(t, c, prepare{letter{0, 1, 0}, partOfZero()})
	logIs(t, c, 1, 0, isPrepared(0, 0, partOfZero()...))
}

// P6: votes and acks go to who sent the prepare or the decide.
func TestAnswersGoToTheSender(t *testing.T) {
	c := made(t, 4)
	for home := range 4 {
		key := 'a' + byte(4*home)
		comes(t, c, prepare{letter{home, 0, home}, []Op{w(key, 1)}})
		comes(t, c, prepare{letter{home, 0, 10 + home}, []Op{w(key, 1)}})
		comes(t, c, decide{letter{home, 0, 20 + home}, false})
		works(t, c.Sync(0))
		comes(t, c, decide{letter{home, 0, 20 + home}, false})
		comes(t, c, prepare{letter{home, 0, home}, []Op{w(key, 1)}})
		bagIs(t, c, "behind all",
			voteNo(0, home, 10+home), voteYes(0, home, home), toAck(0, home, 20+home), toAck(0, home, 20+home), voteYes(0, home, home))
		for len(c.Bag()) > 0 {
			works(t, c.Drop(0))
		}
	}
}
