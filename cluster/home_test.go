package cluster

import "testing"

// decidedHere is a cluster of 2 shards with a transaction, of home 0, that both have voted yes for: its decision is written, but not for good.
func decidedHere(t *testing.T) *Cluster {
	t.Helper()
	c := made(t, 2)
	c.shards[1].values['d'] = 6
	submitted(t, c, w('a', 5), r('d'))
	deliver(t, c, 3)
	works(t, c.Sync(0), c.Sync(1))
	deliver(t, c, 2)
	bagIs(t, c, "ahead of the sync")
	return c
}

// P5: a begin: a prepare to each that takes part, in the order of their numbers, each with its part in the operations' order.
func TestBeginPrepares(t *testing.T) {
	c := made(t, 4)
	tx := submitted(t, c, w('h', 4), r('e'), w('d', 8), r('a'), w('b', 2))
	deliver(t, c, 1)
	bagIs(t, c, "behind a begin",
		toPrepare(3, 0, tx, r('e'), r('a')),
		toPrepare(3, 1, tx, w('b', 2)),
		toPrepare(3, 3, tx, w('h', 4), w('d', 8)))
	for s := range 4 {
		logIs(t, c, s, 0)
		same(t, "the locks", c.Locks(s), map[byte]int{})
	}
}

// P5: the home itself takes part only if it has a key.
func TestBeginOnOneShard(t *testing.T) {
	c := made(t, 3)
	submitted(t, c, w('c', 4), r('f'))
	deliver(t, c, 1)
	bagIs(t, c, "behind a begin", toPrepare(2, 2, 0, w('c', 4), r('f')))
}

// P5: a begin of one that is under way does nothing, be it decided or not, as long as that is not for good.
func TestBeginUnderWay(t *testing.T) {
	c := made(t, 2)
	submitted(t, c, w('a', 1), w('b', 2))
	works(t, c.Copy(0), c.Copy(0), c.Copy(0))
	deliver(t, c, 2)
	works(t, c.Deliver(0))
	same(t, "begun three times", numbersIn(c), []int{0, 0, 0})
	same(t, "its timers", c.shards[0].timers.Len(), 1)
	works(t, c.Drop(0))
	bagIs(t, c, "behind it", toPrepare(0, 0, 0, w('a', 1)), toPrepare(0, 1, 0, w('b', 2)))
	comes(t, c, vote{letter: letter{1, 0, 0}})
	works(t, c.Drop(0), c.Drop(0), c.Again(0), c.Deliver(0))
	bagIs(t, c, "decided, but not for good")
	logIs(t, c, 0, 0, decidedNo(0))
}

// P5: a begin of one that is decided for good: a reply at once, with its reads.
func TestBeginDecidedForGood(t *testing.T) {
	c := decidedHere(t)
	works(t, c.Again(0), c.Deliver(0))
	bagIs(t, c, "not for good")
	works(t, c.Sync(0), c.Again(0), c.Deliver(3))
	bagIs(t, c, "for good",
		toDecide(0, 0, 0, true), toDecide(0, 1, 0, true), replyYes(0, 0, 6), replyYes(0, 0, 6))
	deliver(t, c, 4)
	works(t, c.Sync(0), c.Sync(1))
	deliver(t, c, 2)
	works(t, c.Again(0), c.Deliver(0))
	bagIs(t, c, "when all have acked", replyYes(0, 0, 6))
}

// P5: so of one that is decided with no.
func TestBeginDecidedWithNo(t *testing.T) {
	c := made(t, 1)
	submitted(t, c, r('a'))
	deliver(t, c, 1)
	works(t, c.Drop(0))
	comes(t, c, vote{letter: letter{0, 0, 0}})
	works(t, c.Sync(0), c.Drop(0), c.Drop(0), c.Again(0), c.Deliver(0))
	bagIs(t, c, "for good", replyNo(0, 0))
	deliver(t, c, 1)
	result, reads := c.Result(0)
	same(t, "the result", result, 3)
	same(t, "its reads", len(reads), 0)
}

// P5: it is the record of this transaction that must be for good, not another.
func TestForGoodEachItsOwn(t *testing.T) {
	c := made(t, 1)
	submitted(t, c, r('a'))
	submitted(t, c, r('b'))
	comes(t, c, ask{letter{0, 0, 0}})
	works(t, c.Sync(0), c.Drop(2))
	comes(t, c, ask{letter{0, 0, 1}})
	deliver(t, c, 2)
	bagIs(t, c, "one for good, one not", replyNo(0, 0))
	logIs(t, c, 0, 1, decidedNo(0), decidedNo(1))
}

// P5: when all that take part have said yes, it is decided: yes, with all reads in the operations' order.
func TestAllSayYes(t *testing.T) {
	c := made(t, 3)
	for key := byte('a'); key <= 'f'; key++ {
		c.shards[place(key, 3)].values[key] = int32(key) - 100
	}
	submitted(t, c, r('f'), r('a'), w('b', 9), r('c'), r('d'), r('e'))
	deliver(t, c, 4)
	works(t, c.Sync(2), c.Sync(1), c.Sync(0))
	bagIs(t, c, "the votes", voteYes(2, 2, 0, 2, -1), voteYes(1, 2, 0, 1), voteYes(0, 2, 0, -3, 0))
	deliver(t, c, 2)
	logIs(t, c, 2, 1, isPrepared(0, 2, r('f'), r('c')))
	deliver(t, c, 1)
	logIs(t, c, 2, 1, isPrepared(0, 2, r('f'), r('c')), decidedYes(0, 2, -3, -1, 0, 1))
	bagIs(t, c, "not for good")
	works(t, c.Sync(0), c.Sync(1))
	bagIs(t, c, "behind the others' syncs")
	works(t, c.Sync(2))
	bagIs(t, c, "for good",
		toDecide(2, 0, 0, true), toDecide(2, 1, 0, true), toDecide(2, 2, 0, true), replyYes(2, 0, 2, -3, -1, 0, 1))
}

// P5: of one shard the first yes counts; it counts once.
func TestFirstYesCounts(t *testing.T) {
	c := made(t, 2)
	submitted(t, c, r('b'), r('a'))
	deliver(t, c, 1)
	works(t, c.Drop(0), c.Drop(0))
	comes(t, c, vote{letter{0, 1, 0}, true, []int32{3}})
	comes(t, c, vote{letter{0, 1, 0}, true, []int32{4}})
	logIs(t, c, 1, 0)
	comes(t, c, vote{letter{1, 1, 0}, true, []int32{5}})
	logIs(t, c, 1, 0, decidedYes(0, 5, 3))
}

// P5: a no decides it: no, also ahead of the others' votes; all that take part hear of it, then the client.
func TestNoDecides(t *testing.T) {
	c := made(t, 3)
	submitted(t, c, w('b', 1), r('a'), r('c'))
	deliver(t, c, 1)
	works(t, c.Drop(0), c.Drop(0), c.Drop(0))
	comes(t, c, vote{letter{0, 1, 0}, true, []int32{3}})
	comes(t, c, vote{letter: letter{2, 1, 0}})
	logIs(t, c, 1, 0, decidedNo(0))
	bagIs(t, c, "not for good")
	works(t, c.Sync(1))
	bagIs(t, c, "for good", toDecide(1, 0, 0, false), toDecide(1, 1, 0, false), toDecide(1, 2, 0, false), replyNo(1, 0))
}

// P5: a no counts also from one that has said yes.
func TestNoBehindYes(t *testing.T) {
	c := made(t, 2)
	submitted(t, c, w('b', 1), r('a'))
	deliver(t, c, 1)
	comes(t, c, vote{letter{0, 1, 0}, true, []int32{3}})
	comes(t, c, vote{letter: letter{0, 1, 0}})
	logIs(t, c, 1, 0, decidedNo(0))
}

// P5: when it is decided, no vote does anything more.
func TestVotesBehindTheDecision(t *testing.T) {
	c := decidedHere(t)
	log, _ := c.Records(0)
	for range 2 {
		comes(t, c, vote{letter: letter{1, 0, 0}})
		comes(t, c, vote{letter{1, 0, 0}, true, []int32{7}})
		logIs(t, c, 0, 1, log...)
	}
	works(t, c.Sync(0))
	same(t, "what was held", len(c.Bag()), 3)
	comes(t, c, vote{letter: letter{1, 0, 0}})
	works(t, c.Sync(0))
	logIs(t, c, 0, 2, log...)
	same(t, "the bag", len(c.Bag()), 3)

	c = made(t, 2)
	submitted(t, c, w('a', 1), r('b'))
	deliver(t, c, 1)
	works(t, c.Drop(0), c.Drop(0))
	for range 2 {
		comes(t, c, vote{letter: letter{1, 0, 0}})
		comes(t, c, vote{letter: letter{0, 0, 0}, yes: true})
		comes(t, c, vote{letter{1, 0, 0}, true, []int32{7}})
	}
	works(t, c.Sync(0))
	logIs(t, c, 0, 1, decidedNo(0))
	bagIs(t, c, "once", toDecide(0, 0, 0, false), toDecide(0, 1, 0, false), replyNo(0, 0))
}

// P5: a vote of one that is not under way does nothing.
func TestVoteOfNoneUnderWay(t *testing.T) {
	c := made(t, 1)
	submitted(t, c, w('a', 1))
	submitted(t, c, w('b', 1))
	deliver(t, c, 1)
	works(t, c.Drop(1))
	comes(t, c, vote{letter: letter{0, 0, 1}})
	comes(t, c, vote{letter: letter{0, 0, 1}, yes: true})
	works(t, c.Sync(0))
	logIs(t, c, 0, 0)
	same(t, "the bag", numbersIn(c), []int{1})
}

// P5: when all that take part have acked, it is no longer under way; not when one of them has twice.
func TestAcks(t *testing.T) {
	c := decidedHere(t)
	home := c.shards[0]
	for _, step := range []struct{ from, underWay int }{{1, 1}, {1, 1}, {0, 0}, {0, 0}, {1, 0}} {
		comes(t, c, ack{letter{step.from, 0, 0}})
		same(t, "how many are under way", len(home.underWay), step.underWay)
	}
}

// P5: an ack counts only of one that is decided.
func TestAckOfNoneDecided(t *testing.T) {
	c := made(t, 2)
	submitted(t, c, w('a', 1), r('b'))
	comes(t, c, ack{letter{0, 0, 0}})
	deliver(t, c, 1)
	comes(t, c, ack{letter{0, 0, 0}})
	comes(t, c, ack{letter{1, 0, 0}})
	comes(t, c, vote{letter: letter{1, 0, 0}})
	comes(t, c, ack{letter{1, 0, 0}})
	same(t, "how many are under way", len(c.shards[0].underWay), 1)
	comes(t, c, ack{letter{0, 0, 0}})
	same(t, "how many are under way", len(c.shards[0].underWay), 0)
	logIs(t, c, 0, 0, decidedNo(0))
}

// P5: an ask of one that is decided for good is answered at once, the asker alone.
func TestAskDecided(t *testing.T) {
	c := decidedHere(t)
	comes(t, c, ask{letter{1, 0, 0}})
	bagIs(t, c, "not for good")
	works(t, c.Sync(0), c.Drop(0), c.Drop(0), c.Drop(0))
	comes(t, c, ask{letter{1, 0, 0}})
	comes(t, c, ask{letter{0, 0, 0}})
	bagIs(t, c, "for good", toDecide(0, 1, 0, true), toDecide(0, 0, 0, true))
	comes(t, c, ack{letter{0, 0, 0}})
	comes(t, c, ack{letter{1, 0, 0}})
	works(t, c.Drop(0), c.Drop(0))
	comes(t, c, ask{letter{1, 0, 0}})
	bagIs(t, c, "no longer under way", toDecide(0, 1, 0, true))
	logIs(t, c, 0, 2, isPrepared(0, 0, w('a', 5)), decidedYes(0, 6))
}

// P5: an ask of one that is under way, and not decided, does nothing.
func TestAskUnderWay(t *testing.T) {
	c := made(t, 2)
	submitted(t, c, w('a', 1), r('b'))
	deliver(t, c, 1)
	works(t, c.Drop(0), c.Drop(0))
	comes(t, c, ask{letter{1, 0, 0}})
	works(t, c.Sync(0))
	bagIs(t, c, "behind the ask")
	logIs(t, c, 0, 0)
}

// P5: an ask of one that the home does not know: it is decided, no; the asker hears of it when that is for good, the client when it begins again.
func TestAskForgotten(t *testing.T) {
	c := made(t, 2)
	submitted(t, c, w('a', 1), r('b'))
	works(t, c.Drop(0))
	comes(t, c, ask{letter{1, 0, 0}})
	comes(t, c, ask{letter{0, 0, 0}})
	works(t, c.Again(0), c.Deliver(0))
	bagIs(t, c, "not for good")
	logIs(t, c, 0, 0, decidedNo(0))
	works(t, c.Sync(0))
	bagIs(t, c, "for good", toDecide(0, 1, 0, false))
	comes(t, c, ask{letter{0, 0, 0}})
	works(t, c.Again(0), c.Deliver(2))
	bagIs(t, c, "behind it", toDecide(0, 1, 0, false), toDecide(0, 0, 0, false), replyNo(0, 0))
	logIs(t, c, 0, 1, decidedNo(0))
	same(t, "its timers", c.shards[0].timers.Len(), 0)
}
