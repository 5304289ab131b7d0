package cluster

import "testing"

// crashed crashes a shard, with so many records kept, and restarts it.
func crashed(t *testing.T, c *Cluster, s, keep int) {
	t.Helper()
	works(t, c.Crash(s, keep), c.Restart(s))
}

// keeps are how many records a crash may keep, with how many of many it does.
func keeps(many int) map[int]int {
	all := map[int]int{-1 << 63: 0, -1: 0, 1<<63 - 1: many, many + 1: many}
	for keep := range many + 1 {
		all[keep] = keep
	}
	return all
}

// P8: there is nothing to crash or to restart where no shard is; none crashes that is down, none restarts that is up.
func TestCrashAndRestartRefused(t *testing.T) {
	for shards := 1; shards <= 4; shards++ {
		c := made(t, shards)
		for _, s := range append(oddNumbers(), shards, 4) {
			refused(t, c.Crash(s, 1), ErrShard, "Crash", s)
			refused(t, c.Restart(s), ErrShard, "Restart", s)
		}
		for s := range shards {
			refused(t, c.Restart(s), ErrUp, "Restart", s)
			works(t, c.Crash(s, 0))
			refused(t, c.Crash(s, 0), ErrDown, "Crash", s)
			same(t, "up", c.Up(s), false)
			works(t, c.Restart(s))
			refused(t, c.Restart(s), ErrUp, "Restart", s)
			same(t, "up", c.Up(s), true)
		}
	}
}

// P1, P8: a refused crash loses nothing, a refused restart neither.
func TestRefusedCrashIsNone(t *testing.T) {
	c := preparedHere(t)
	works(t, c.Tick(1), c.Tick(1))
	ahead := taken(c)
	refused(t, c.Restart(1), ErrUp, "Restart", 1)
	same(t, "behind a restart", taken(c), ahead)
	sends(t, c, 1, 1, toAsk(1, 0, 0))
	works(t, c.Sync(1))
	bagIs(t, c, "what has waited", voteYes(1, 0, 0, 7, 0))
	comes(t, c, decide{letter{0, 1, 0}, true})
	works(t, c.Crash(1, 1))
	ahead = taken(c)
	refused(t, c.Crash(1, 0), ErrDown, "Crash", 1)
	same(t, "behind a crash", taken(c), ahead)
	works(t, c.Restart(1))
	logIs(t, c, 1, 2, isPrepared(0, 0, partOfZero()...), isDone(0, true))
}

// P8: of the records that are not for good the first keep are for good then; the others are gone.
func TestCrashKeeps(t *testing.T) {
	for good := range 4 {
		for keep, kept := range keeps(3 - good) {
			c := made(t, 2)
			log := []Record{isPrepared(3, 0, w('b', 1)), isDone(7, false), isPrepared(2, 0, r('d'))}
			for i, one := range []message{
				prepare{letter{0, 1, 3}, []Op{w('b', 1)}}, decide{letter: letter{0, 1, 7}}, prepare{letter{0, 1, 2}, []Op{r('d')}},
			} {
				comes(t, c, one)
				if i+1 == good {
					works(t, c.Sync(1))
				}
			}
			logIs(t, c, 1, good, log...)
			bag := c.Bag()
			works(t, c.Crash(1, keep))
			logIs(t, c, 1, good+kept, log[:good+kept]...)
			works(t, c.Restart(1))
			logIs(t, c, 1, good+kept, log[:good+kept]...)
			works(t, c.Sync(1))
			logIs(t, c, 1, good+kept, log[:good+kept]...)
			same(t, "the bag", c.Bag(), bag)
		}
	}
}

// P8: what waits is gone, also if the record that it tells of is kept; what is in the bag already stays there.
func TestCrashLosesWhatWaits(t *testing.T) {
	for keep := range 3 {
		c := decidedHere(t)
		comes(t, c, prepare{letter{1, 0, 1}, []Op{r('c')}})
		crashed(t, c, 0, keep)
		works(t, c.Sync(0))
		bagIs(t, c, "behind the crash")
	}
	c := decidedHere(t)
	works(t, c.Sync(0))
	crashed(t, c, 0, 0)
	bagIs(t, c, "synced ahead of it", toDecide(0, 0, 0, true), toDecide(0, 1, 0, true), replyYes(0, 0, 6))
}

// P4, P8, P9: one that is down has its log alone, and takes nothing in; the others go on.
func TestDown(t *testing.T) {
	c := preparedHere(t)
	comes(t, c, prepare{letter{0, 1, 1}, []Op{w('j', 4)}})
	comes(t, c, decide{letter{0, 1, 1}, true})
	comes(t, c, prepare{letter{1, 0, 2}, []Op{w('a', 4)}})
	works(t, c.Crash(1, 9))
	ahead := taken(c)
	same(t, "up", []bool{c.Up(0), c.Up(1)}, []bool{true, false})
	same(t, "the values", c.Values(1), map[byte]int32{})
	same(t, "the locks", c.Locks(1), map[byte]int{})
	logIs(t, c, 1, 3, isPrepared(0, 0, partOfZero()...), isPrepared(1, 0, w('j', 4)), isDone(1, true))
	for _, m := range []message{
		begin{letter{client, 1, 5}, []Op{r('b')}}, prepare{letter{0, 1, 0}, partOfZero()}, decide{letter{0, 1, 0}, true}, ask{letter{0, 1, 5}},
	} {
		comes(t, c, m)
		same(t, "behind a message", taken(c), ahead)
	}
	same(t, "the other's locks", c.Locks(0), map[byte]int{'a': 2})
	comes(t, c, decide{letter{1, 0, 2}, true})
	works(t, c.Sync(0))
	bagIs(t, c, "the other's", voteYes(0, 1, 2), toAck(0, 1, 2))
	c.Stop()
	same(t, "up behind Stop", c.Up(1), false)
	logIs(t, c, 1, 3, isPrepared(0, 0, partOfZero()...), isPrepared(1, 0, w('j', 4)), isDone(1, true))
}

// The document's example: of two records that are not for good the first is kept; its keys are locked, and the third tick asks.
func TestRestartExample(t *testing.T) {
	c := made(t, 2)
	comes(t, c, prepare{letter{1, 0, 0}, []Op{w('a', 5), r('c')}})
	comes(t, c, prepare{letter{1, 0, 1}, []Op{w('e', 5)}})
	works(t, c.Crash(0, 1))
	logIs(t, c, 0, 1, isPrepared(0, 1, w('a', 5), r('c')))
	works(t, c.Restart(0))
	same(t, "the locks", c.Locks(0), map[byte]int{'a': 0, 'c': 0})
	sends(t, c, 0, 3, toAsk(0, 1, 0))
}

// P8: of one that is prepared its keys are locked; that its record was kept makes it for good, so it is voted for at once.
func TestRestartPrepared(t *testing.T) {
	c := preparedHere(t)
	crashed(t, c, 1, 1)
	same(t, "the locks", c.Locks(1), map[byte]int{'b': 0, 'd': 0, 'f': 0, 'h': 0})
	same(t, "the values", c.Values(1), map[byte]int32{})
	comes(t, c, prepare{letter{0, 1, 0}, partOfZero()})
	comes(t, c, prepare{letter{0, 1, 1}, []Op{r('h')}})
	bagIs(t, c, "behind prepares", voteYes(1, 0, 0, 0, 0), voteNo(1, 0, 1))
	comes(t, c, decide{letter{0, 1, 0}, true})
	same(t, "the values", c.Values(1), map[byte]int32{'d': 3})
	same(t, "the locks", c.Locks(1), map[byte]int{})
	logIs(t, c, 1, 1, isPrepared(0, 0, partOfZero()...), isDone(0, true))
	works(t, c.Sync(1))
	same(t, "what has waited", c.Bag()[2:], []Message{toAck(1, 0, 0)})
}

// P8: one whose record is gone has never been prepared.
func TestRestartNotPrepared(t *testing.T) {
	c := preparedHere(t)
	crashed(t, c, 1, 0)
	same(t, "the locks", c.Locks(1), map[byte]int{})
	sends(t, c, 1, 10)
	comes(t, c, decide{letter{0, 1, 0}, true})
	logIs(t, c, 1, 0)
	comes(t, c, prepare{letter{0, 1, 0}, partOfZero()})
	works(t, c.Sync(1))
	bagIs(t, c, "prepared anew", voteYes(1, 0, 0, 0, 0))
	sends(t, c, 1, 3, toAsk(1, 0, 0))
}

// P8: of one that is done its writes are values, if it says yes; its locks are free; it is done, for good.
func TestRestartDone(t *testing.T) {
	for _, yes := range []bool{false, true} {
		c := preparedHere(t)
		comes(t, c, prepare{letter{0, 1, 1}, []Op{w('j', 2)}})
		comes(t, c, decide{letter{0, 1, 0}, yes})
		crashed(t, c, 1, 3)
		same(t, "the locks", c.Locks(1), map[byte]int{'j': 1})
		want := map[byte]int32{}
		if yes {
			want['d'] = 3
		}
		same(t, "the values", c.Values(1), want)
		sends(t, c, 1, 3, toAsk(1, 0, 1))
		comes(t, c, decide{letter{0, 1, 0}, yes})
		bagIs(t, c, "behind a decide", toAck(1, 0, 0))
		works(t, c.Drop(0))
		comes(t, c, prepare{letter{0, 1, 0}, partOfZero()})
		if yes {
			bagIs(t, c, "behind a prepare")
		} else {
			bagIs(t, c, "behind a prepare", voteNo(1, 0, 0))
		}
		logIs(t, c, 1, 3, isPrepared(0, 0, partOfZero()...), isPrepared(1, 0, w('j', 2)), isDone(0, yes))
	}
}

// P8: one whose done record is gone is prepared still: its writes are no values, its keys locked.
func TestRestartNotDone(t *testing.T) {
	c := preparedHere(t)
	works(t, c.Sync(1))
	comes(t, c, decide{letter{0, 1, 0}, true})
	dropped(t, c)
	crashed(t, c, 1, 0)
	same(t, "the values", c.Values(1), map[byte]int32{})
	same(t, "the locks", len(c.Locks(1)), 4)
	sends(t, c, 1, 3, toAsk(1, 0, 0))
	comes(t, c, decide{letter{0, 1, 0}, true})
	same(t, "the values", c.Values(1), map[byte]int32{'d': 3})
	bagIs(t, c, "ahead of the sync")
	works(t, c.Sync(1))
	bagIs(t, c, "behind it", toAck(1, 0, 0))
}

// P8: also one that was done with no, and never prepared, is done.
func TestRestartDoneUnprepared(t *testing.T) {
	c := made(t, 2)
	comes(t, c, decide{letter: letter{0, 1, 0}})
	crashed(t, c, 1, 1)
	comes(t, c, prepare{letter{0, 1, 0}, partOfZero()})
	comes(t, c, decide{letter: letter{0, 1, 0}})
	bagIs(t, c, "behind them", voteNo(1, 0, 0), toAck(1, 0, 0))
	same(t, "the locks", c.Locks(1), map[byte]int{})
	logIs(t, c, 1, 1, isDone(0, false))
}

// P8: the log is gone through from the first record to the last: what was written last stands, and 0 is told no more.
func TestRestartInTheLogsOrder(t *testing.T) {
	c := made(t, 1)
	for tx, ops := range [][]Op{{w('a', 1), w('b', 1), w('c', 1)}, {w('b', 2), w('c', 2)}, {w('c', 0), r('a')}} {
		comes(t, c, prepare{letter{0, 0, 5 - tx}, ops})
		comes(t, c, decide{letter{0, 0, 5 - tx}, true})
	}
	comes(t, c, prepare{letter{0, 0, 9}, []Op{w('b', 7), w('z', 7)}})
	values, locks := map[byte]int32{'a': 1, 'b': 2}, map[byte]int{'b': 9, 'z': 9}
	same(t, "the values", c.Values(0), values)
	for range 3 {
		crashed(t, c, 0, 7)
		same(t, "the values", c.Values(0), values)
		same(t, "the locks", c.Locks(0), locks)
	}
}

// P8: a decision that is for good is known: it is replied, with its reads, and told to who asks.
func TestRestartDecided(t *testing.T) {
	for _, yes := range []bool{false, true} {
		for _, keep := range []int{0, 1} {
			c := begun(t)
			comes(t, c, vote{letter{2, 1, 0}, true, []int32{8}})
			comes(t, c, vote{letter{1, 1, 0}, true, []int32{9}})
			comes(t, c, vote{letter: letter{0, 1, 0}, yes: yes})
			if keep == 0 {
				works(t, c.Sync(1))
				dropped(t, c)
			}
			crashed(t, c, 1, keep)
			sends(t, c, 1, 10)
			works(t, c.Again(0), c.Deliver(0))
			comes(t, c, ask{letter{2, 1, 0}})
			comes(t, c, vote{letter: letter{0, 1, 0}, yes: !yes})
			if yes {
				bagIs(t, c, "decided, yes", replyYes(1, 0, 8, 9), toDecide(1, 2, 0, true))
				logIs(t, c, 1, 1, decidedYes(0, 8, 9))
			} else {
				bagIs(t, c, "decided, no", replyNo(1, 0), toDecide(1, 2, 0, false))
				logIs(t, c, 1, 1, decidedNo(0))
			}
		}
	}
}

// P8: a decision that is gone was none: nobody has heard of it; whoever asks is told no.
func TestRestartNotDecided(t *testing.T) {
	c := decidedHere(t)
	crashed(t, c, 0, 0)
	logIs(t, c, 0, 1, isPrepared(0, 0, w('a', 5)))
	comes(t, c, ask{letter{1, 0, 0}})
	bagIs(t, c, "not for good")
	works(t, c.Sync(0))
	bagIs(t, c, "for good", toDecide(0, 1, 0, false))
	logIs(t, c, 0, 2, isPrepared(0, 0, w('a', 5)), decidedNo(0))
	deliver(t, c, 1)
	same(t, "the locks", c.Locks(1), map[byte]int{})
	result, _ := c.Result(0)
	same(t, "the result", result, 1)
	works(t, c.Again(0), c.Deliver(0), c.Deliver(0))
	result, _ = c.Result(0)
	same(t, "the result", result, 3)
}

// P8: nothing is under way: no vote counts, nothing is sent again; one that begins anew hears all votes anew.
func TestRestartNothingIsUnderWay(t *testing.T) {
	c := begun(t)
	comes(t, c, vote{letter{2, 1, 0}, true, []int32{8}})
	works(t, c.Tick(1))
	crashed(t, c, 1, 5)
	sends(t, c, 1, 10)
	comes(t, c, vote{letter{1, 1, 0}, true, []int32{9}})
	comes(t, c, vote{letter: letter{0, 1, 0}, yes: true})
	comes(t, c, vote{letter: letter{0, 1, 0}})
	comes(t, c, ack{letter{0, 1, 0}})
	works(t, c.Sync(1))
	bagIs(t, c, "behind votes")
	logIs(t, c, 1, 0)
	first, second, third := toPrepare(1, 0, 0, w('a', 2)), toPrepare(1, 1, 0, w('b', 1), r('e')), toPrepare(1, 2, 0, r('c'))
	works(t, c.Again(0), c.Deliver(0))
	bagIs(t, c, "begun anew", first, second, third)
	dropped(t, c)
	sends(t, c, 1, 4, first, second, third)
	comes(t, c, vote{letter{1, 1, 0}, true, []int32{7}})
	comes(t, c, vote{letter: letter{0, 1, 0}, yes: true})
	logIs(t, c, 1, 0)
	comes(t, c, vote{letter{2, 1, 0}, true, []int32{6}})
	logIs(t, c, 1, 0, decidedYes(0, 6, 7))
}

// P8: an ask of what is gone with the home's memory is answered with no, which is decided then.
func TestAskBehindCrash(t *testing.T) {
	c := begun(t)
	comes(t, c, prepare{letter{1, 2, 0}, []Op{r('c')}})
	works(t, c.Sync(2), c.Drop(0))
	crashed(t, c, 1, 0)
	works(t, c.Tick(2), c.Tick(2), c.Tick(2), c.Deliver(0), c.Sync(1))
	bagIs(t, c, "the answer", toDecide(1, 2, 0, false))
	logIs(t, c, 1, 1, decidedNo(0))
	works(t, c.Again(0), c.Deliver(1), c.Deliver(0), c.Sync(2))
	bagIs(t, c, "begun again, and done", replyNo(1, 0), toAck(2, 1, 0))
	logIs(t, c, 2, 2, isPrepared(0, 1, r('c')), isDone(0, false))
	same(t, "the locks", c.Locks(2), map[byte]int{})
}

// P8: the clock is 0 again, all timers are gone; of all that are prepared it is asked behind 3 ticks, in the order of their numbers, of each once.
func TestRestartTimers(t *testing.T) {
	c := made(t, 2)
	numbers := []int{31, 4, 17, 2, 59, 0, 23}
	for i, tx := range numbers {
		comes(t, c, prepare{letter{tx % 2, 1, tx}, []Op{w('b'+byte(2*i), 1)}})
	}
	comes(t, c, decide{letter{1, 1, 17}, true})
	submitted(t, c, r('z'))
	deliver(t, c, 1)
	dropped(t, c)
	for _, passed := range []int{0, 1, 2, 5} {
		for range passed {
			passes(t, c, 1)
		}
		crashed(t, c, 1, 8)
		same(t, "the clock", c.shards[1].clock, 0)
		asks := []Message{toAsk(1, 0, 0), toAsk(1, 0, 2), toAsk(1, 0, 4), toAsk(1, 1, 23), toAsk(1, 1, 31), toAsk(1, 1, 59)}
		sends(t, c, 1, 3, asks...)
		sends(t, c, 1, 3, asks...)
	}
	same(t, "its timers", c.shards[1].timers.Len(), 6)
}

// P8: what is written behind a restart joins the log, and is for good when it is synced, no sooner.
func TestWrittenBehindRestart(t *testing.T) {
	c := preparedHere(t)
	comes(t, c, prepare{letter{0, 1, 1}, []Op{r('j')}})
	comes(t, c, prepare{letter{0, 1, 2}, []Op{r('l')}})
	crashed(t, c, 1, 1)
	comes(t, c, prepare{letter{0, 1, 3}, []Op{r('l')}})
	comes(t, c, prepare{letter{0, 1, 3}, []Op{r('l')}})
	bagIs(t, c, "not for good")
	log := []Record{isPrepared(0, 0, partOfZero()...), isPrepared(3, 0, r('l'))}
	logIs(t, c, 1, 1, log...)
	works(t, c.Sync(1))
	bagIs(t, c, "for good", voteYes(1, 0, 3, 0))
	comes(t, c, prepare{letter{0, 1, 3}, []Op{r('l')}})
	bagIs(t, c, "once more", voteYes(1, 0, 3, 0), voteYes(1, 0, 3, 0))
	logIs(t, c, 1, 2, log...)
	comes(t, c, decide{letter: letter{0, 1, 3}})
	crashed(t, c, 1, 0)
	logIs(t, c, 1, 2, log...)
	same(t, "the locks", c.Locks(1)['l'], 3)
}

// P8: crashes of one shard are nothing to the others.
func TestCrashOfAnother(t *testing.T) {
	c, twin := decidedHere(t), decidedHere(t)
	for _, one := range []*Cluster{c, twin} {
		works(t, one.Tick(0), one.Tick(0))
	}
	works(t, c.Crash(1, 1))
	for range 6 {
		same(t, "what a tick sends", passes(t, c, 0), passes(t, twin, 0))
	}
	works(t, c.Sync(0), twin.Sync(0), c.Restart(1))
	same(t, "the bag", c.Bag(), twin.Bag())
	same(t, "the locks", c.Locks(0), twin.Locks(0))
	deliver(t, c, 3)
	deliver(t, twin, 3)
	works(t, c.Sync(1), twin.Sync(1))
	same(t, "what the other does", c.Bag(), twin.Bag())
}

// P1: behind Stop nobody crashes or restarts, and no time passes, whether the shard is up or down.
func TestCrashBehindStop(t *testing.T) {
	c := preparedHere(t)
	works(t, c.Crash(0, 0))
	ahead := taken(c)
	c.Stop()
	refused(t, c.Crash(1, 0), ErrStopped, "Crash", 1)
	refused(t, c.Crash(0, 0), ErrStopped, "Crash", 0)
	refused(t, c.Restart(0), ErrStopped, "Restart", 0)
	refused(t, c.Restart(1), ErrStopped, "Restart", 1)
	refused(t, c.Tick(0), ErrStopped, "Tick", 0)
	refused(t, c.Tick(1), ErrStopped, "Tick", 1)
	same(t, "behind Stop", taken(c), ahead)
}
