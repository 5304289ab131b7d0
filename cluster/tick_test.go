package cluster

import "testing"

// passes lets time go on by one at a shard, and answers what that has sent; it is taken out of the bag.
func passes(t *testing.T, c *Cluster, s int) []Message {
	t.Helper()
	ahead := len(c.Bag())
	works(t, c.Tick(s))
	sent := c.Bag()[ahead:]
	for range sent {
		works(t, c.Drop(ahead))
	}
	return append([]Message{}, sent...)
}

// sends: of the next ticks of a shard only the last must send something: this.
func sends(t *testing.T, c *Cluster, s, many int, want ...Message) {
	t.Helper()
	for tick := 1; tick < many; tick++ {
		same(t, "what a tick sends ahead of its time", passes(t, c, s), []Message{})
	}
	same(t, "what a tick sends", passes(t, c, s), append([]Message{}, want...))
}

// dropped takes everything out of the bag.
func dropped(t *testing.T, c *Cluster) {
	t.Helper()
	for len(c.Bag()) > 0 {
		works(t, c.Drop(0))
	}
}

func toAsk(from, to, tx int) Message { return Message{Kind: 6, From: from, To: to, Tx: tx} }

// begun is a cluster of 3 shards; at the second a transaction of all three is under way, of which nobody has heard.
func begun(t *testing.T) *Cluster {
	t.Helper()
	c := made(t, 3)
	submitted(t, c, w('b', 1), r('c'), w('a', 2), r('e'))
	deliver(t, c, 1)
	dropped(t, c)
	return c
}

// P7: no time passes where no shard is, nor at one that is down, nor with more than 150 in the bag; this is told in that order.
func TestTickRefused(t *testing.T) {
	onlyOfShards(t, "Tick", (*Cluster).Tick)
	c := made(t, 2)
	submitted(t, c, r('a'))
	for len(c.Bag()) < 151 {
		works(t, c.Copy(0))
	}
	works(t, c.Crash(1, 0))
	ahead := taken(c)
	refused(t, c.Tick(0), ErrMany, "Tick", 0)
	refused(t, c.Tick(1), ErrDown, "Tick", 1)
	refused(t, c.Tick(2), ErrShard, "Tick", 2)
	same(t, "behind them", taken(c), ahead)
	works(t, c.Drop(0), c.Tick(0))
	refused(t, c.Tick(1), ErrDown, "Tick", 1)
	works(t, c.Restart(1), c.Tick(1))
}

// P1, P7: when a tick is refused the clock has not gone on.
func TestRefusedTickIsNone(t *testing.T) {
	c := begun(t)
	sends(t, c, 1, 3)
	submitted(t, c, r('a'))
	for len(c.Bag()) < 151 {
		works(t, c.Copy(0))
	}
	for range 5 {
		refused(t, c.Tick(1), ErrMany, "Tick", 1)
	}
	dropped(t, c)
	sends(t, c, 1, 1, toPrepare(1, 0, 0, w('a', 2)), toPrepare(1, 1, 0, w('b', 1), r('e')), toPrepare(1, 2, 0, r('c')))
}

// P7: what goes off may fill the bag above 150, and is not held until the disk is written.
func TestTickSendsAll(t *testing.T) {
	c := made(t, 1)
	for tx := range 50 {
		submitted(t, c, w('a', 1))
		works(t, c.Deliver(0), c.Drop(0))
		same(t, "the bag", len(c.Bag()), 0)
		same(t, "how many are under way", len(c.shards[0].underWay), tx+1)
	}
	submitted(t, c, w('a', 1))
	for len(c.Bag()) < 150 {
		works(t, c.Copy(0))
	}
	works(t, c.Tick(0), c.Tick(0), c.Tick(0), c.Tick(0))
	bag := c.Bag()
	same(t, "what the bag holds", len(bag), 200)
	for tx := range 50 {
		same(t, "a message", bag[150+tx], toPrepare(0, 0, tx, w('a', 1)))
	}
}

// P7: each shard has a clock of its own.
func TestClocksAreApart(t *testing.T) {
	c := begun(t)
	comes(t, c, prepare{letter{1, 2, 0}, []Op{r('c')}})
	for range 9 {
		same(t, "what the first one's tick sends", passes(t, c, 0), []Message{})
	}
	sends(t, c, 2, 3, toAsk(2, 1, 0))
	sends(t, c, 1, 4, toPrepare(1, 0, 0, w('a', 2)), toPrepare(1, 1, 0, w('b', 1), r('e')), toPrepare(1, 2, 0, r('c')))
}

// P7: "again", not decided: every 4 ticks a prepare to each that has not said yes.
func TestAgainUndecided(t *testing.T) {
	c := begun(t)
	first, second, third := toPrepare(1, 0, 0, w('a', 2)), toPrepare(1, 1, 0, w('b', 1), r('e')), toPrepare(1, 2, 0, r('c'))
	sends(t, c, 1, 4, first, second, third)
	sends(t, c, 1, 4, first, second, third)
	comes(t, c, vote{letter{1, 1, 0}, true, []int32{0}})
	sends(t, c, 1, 4, first, third)
	comes(t, c, vote{letter{2, 1, 0}, true, []int32{0}})
	for range 3 {
		sends(t, c, 1, 4, first)
	}
	logIs(t, c, 1, 0)
	comes(t, c, vote{letter: letter{0, 1, 0}, yes: true})
	logIs(t, c, 1, 0, decidedYes(0, 0, 0))
}

// P7: "again", decided: a decide to each that has not acked, when the decision is for good; till then nothing, but the timer is set anew.
func TestAgainDecided(t *testing.T) {
	for _, yes := range []bool{false, true} {
		c := begun(t)
		comes(t, c, vote{letter{2, 1, 0}, true, []int32{0}})
		comes(t, c, vote{letter{1, 1, 0}, true, []int32{0}})
		comes(t, c, vote{letter: letter{0, 1, 0}, yes: yes})
		sends(t, c, 1, 8)
		works(t, c.Sync(1))
		dropped(t, c)
		first, second, third := toDecide(1, 0, 0, yes), toDecide(1, 1, 0, yes), toDecide(1, 2, 0, yes)
		sends(t, c, 1, 4, first, second, third)
		sends(t, c, 1, 4, first, second, third)
		comes(t, c, ack{letter{1, 1, 0}})
		sends(t, c, 1, 4, first, third)
		comes(t, c, ack{letter{0, 1, 0}})
		comes(t, c, ack{letter{1, 1, 0}})
		sends(t, c, 1, 4, third)
		sends(t, c, 1, 4, third)
		comes(t, c, ack{letter{2, 1, 0}})
		sends(t, c, 1, 20)
		same(t, "its timers", c.shards[1].timers.Len(), 0)
	}
}

// P7: it must be this transaction's decision that is for good.
func TestAgainEachItsOwn(t *testing.T) {
	c := made(t, 1)
	for _, key := range []byte("abc") {
		submitted(t, c, r(key))
	}
	deliver(t, c, 3)
	dropped(t, c)
	comes(t, c, vote{letter: letter{0, 0, 1}})
	works(t, c.Sync(0))
	dropped(t, c)
	comes(t, c, vote{letter: letter{0, 0, 0}})
	sends(t, c, 0, 4, toDecide(0, 0, 1, false), toPrepare(0, 0, 2, r('c')))
}

// P7: "again" of one that all have acked ahead of its time does nothing.
func TestAgainOfNoneUnderWay(t *testing.T) {
	c := decidedHere(t)
	works(t, c.Sync(0), c.Tick(0), c.Tick(0))
	for s := range 2 {
		comes(t, c, ack{letter{s, 0, 0}})
		comes(t, c, decide{letter{0, s, 0}, true})
	}
	dropped(t, c)
	sends(t, c, 0, 20)
}

// P7: "ask" of one that is prepared: every 3 ticks an ask to its home, be the record for good or not.
func TestAskPrepared(t *testing.T) {
	c := preparedHere(t)
	sends(t, c, 1, 3, toAsk(1, 0, 0))
	sends(t, c, 1, 3, toAsk(1, 0, 0))
	works(t, c.Sync(1))
	dropped(t, c)
	sends(t, c, 1, 3, toAsk(1, 0, 0))
	logIs(t, c, 1, 1, isPrepared(0, 0, partOfZero()...))
	same(t, "the locks", len(c.Locks(1)), 4)
}

// P7: it asks no more when it is done, whichever way, for good or not.
func TestAskDone(t *testing.T) {
	for _, yes := range []bool{false, true} {
		for _, asked := range []bool{false, true} {
			c := preparedHere(t)
			if asked {
				sends(t, c, 1, 3, toAsk(1, 0, 0))
			}
			comes(t, c, decide{letter{0, 1, 0}, yes})
			sends(t, c, 1, 10)
			works(t, c.Sync(1))
			dropped(t, c)
			sends(t, c, 1, 10)
			same(t, "its timers", c.shards[1].timers.Len(), 0)
		}
	}
}

// P7: an ask goes to the home: who sent the prepare. Of one time they go off in the order in which they were set.
func TestAskEachHome(t *testing.T) {
	c := made(t, 4)
	for _, home := range []int{2, 0, 3, 1} {
		comes(t, c, prepare{letter{home, 1, 10 + home}, []Op{w('b'+byte(4*home), 1)}})
	}
	for range 3 {
		sends(t, c, 1, 3, toAsk(1, 2, 12), toAsk(1, 0, 10), toAsk(1, 3, 13), toAsk(1, 1, 11))
	}
	comes(t, c, decide{letter: letter{0, 1, 10}})
	sends(t, c, 1, 3, toAsk(1, 2, 12), toAsk(1, 3, 13), toAsk(1, 1, 11))
}

// P7: of one that is prepared at other times it is asked at others.
func TestAskAtItsTime(t *testing.T) {
	c := made(t, 1)
	for tx := range 3 {
		comes(t, c, prepare{letter{0, 0, tx}, []Op{w('a'+byte(tx), 1)}})
		works(t, c.Tick(0))
	}
	bagIs(t, c, "behind 3 ticks", toAsk(0, 0, 0))
	for range 3 {
		sends(t, c, 0, 1, toAsk(0, 0, 1))
		sends(t, c, 0, 1, toAsk(0, 0, 2))
		sends(t, c, 0, 1, toAsk(0, 0, 0))
	}
}

// P7: both kinds at one shard: at the twelfth tick both go off, "again", which was set at the eighth, ahead of "ask", which was at the ninth.
func TestBothTimers(t *testing.T) {
	c := made(t, 1)
	submitted(t, c, w('a', 1))
	deliver(t, c, 2)
	asks, again := toAsk(0, 0, 0), toPrepare(0, 0, 0, w('a', 1))
	for range 2 {
		sends(t, c, 0, 3, asks)
		sends(t, c, 0, 1, again)
		sends(t, c, 0, 2, asks)
		sends(t, c, 0, 2, again)
		sends(t, c, 0, 1, asks)
		sends(t, c, 0, 3, again, asks)
	}
}

// P7: transactions that were begun at one time are gone through in the order of their begins.
func TestAgainInOrder(t *testing.T) {
	c := made(t, 1)
	for range 4 {
		submitted(t, c, r('a'))
	}
	works(t, c.Deliver(2), c.Deliver(0), c.Deliver(1), c.Deliver(0))
	same(t, "the prepares", numbersIn(c), []int{2, 0, 3, 1})
	dropped(t, c)
	for range 3 {
		sends(t, c, 0, 4, toPrepare(0, 0, 2, r('a')), toPrepare(0, 0, 0, r('a')), toPrepare(0, 0, 3, r('a')), toPrepare(0, 0, 1, r('a')))
	}
}

// P7: what was lost is made good by time alone: prepares, votes, decides, acks.
func TestTimeMakesGood(t *testing.T) {
	c := decidedHere(t)
	works(t, c.Sync(0))
	dropped(t, c)
	works(t, c.Tick(0), c.Tick(0), c.Tick(0))
	bagIs(t, c, "shard 0 asks", toAsk(0, 0, 0))
	deliver(t, c, 1)
	works(t, c.Tick(0))
	bagIs(t, c, "asked, and again", toDecide(0, 0, 0, true), toDecide(0, 0, 0, true), toDecide(0, 1, 0, true))
	deliver(t, c, 3)
	same(t, "the values", c.Values(0), map[byte]int32{'a': 5})
	same(t, "the locks", len(c.Locks(0))+len(c.Locks(1)), 0)
	works(t, c.Sync(0), c.Sync(1))
	bagIs(t, c, "the acks", toAck(0, 0, 0), toAck(1, 0, 0))
	works(t, c.Drop(0), c.Deliver(0))
	sends(t, c, 0, 4, toDecide(0, 0, 0, true))
}
