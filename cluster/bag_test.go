package cluster

import "testing"

// full fills the bag with copies of its first message.
func full(t *testing.T, c *Cluster) {
	t.Helper()
	for len(c.Bag()) < 400 {
		works(t, c.Copy(0))
	}
}

// numbersIn are the transactions of the bag's messages.
func numbersIn(c *Cluster) []int {
	var l []int
	for _, m := range c.Bag() {
		l = append(l, m.Tx)
	}
	return l
}

// P4: nothing is at a place where no message is.
func TestNoSuchMessage(t *testing.T) {
	c := made(t, 2)
	for held := range 3 {
		for _, i := range append(oddNumbers(), held, held+1) {
			refused(t, c.Deliver(i), ErrMessage, "Deliver", i)
			refused(t, c.Drop(i), ErrMessage, "Drop", i)
			refused(t, c.Copy(i), ErrMessage, "Copy", i)
		}
		same(t, "the bag", len(c.Bag()), held)
		submitted(t, c, r('a'))
	}
}

// P4: what is delivered or dropped leaves the bag, the others close up; what is copied joins its end.
func TestPlacesInTheBag(t *testing.T) {
	c := made(t, 3)
	for _, key := range []byte("abcde") {
		submitted(t, c, r(key))
	}
	works(t, c.Drop(2))
	same(t, "behind Drop(2)", numbersIn(c), []int{0, 1, 3, 4})
	works(t, c.Copy(1))
	same(t, "behind Copy(1)", numbersIn(c), []int{0, 1, 3, 4, 1})
	works(t, c.Deliver(0))
	same(t, "behind Deliver(0), and what came of it", numbersIn(c), []int{1, 3, 4, 1, 0})
	works(t, c.Drop(3), c.Deliver(2), c.Copy(0), c.Again(4))
	same(t, "behind more", numbersIn(c), []int{1, 3, 0, 4, 1, 4})
	bag := c.Bag()
	same(t, "a copy", bag[4], bag[0])
	works(t, c.Drop(0), c.Drop(0), c.Drop(0), c.Drop(2), c.Drop(0), c.Drop(0))
	same(t, "behind all", len(c.Bag()), 0)
}

// P4: a copy is wholly like its message, whatever that is.
func TestCopyIsLikeIt(t *testing.T) {
	c := made(t, 2)
	submitted(t, c, r('a'))
	c.bag.put(reply{letter{0, client, 0}, true, []int32{3}})
	works(t, c.Copy(1), c.Drop(1))
	same(t, "the copy", c.Bag()[1], replyYes(0, 0, 3))
	works(t, c.Deliver(1))
	result, reads := c.Result(0)
	same(t, "the result", result, 2)
	same(t, "its reads", reads, []int32{3})
}

// P3, P4: 400 messages are the most; of a place without a message that is told first.
func TestFullBag(t *testing.T) {
	c := made(t, 2)
	submitted(t, c, r('a'), w('b', 2))
	full(t, c)
	ahead := taken(c)
	refused(t, c.Copy(399), ErrMany, "Copy", 399)
	refused(t, c.Copy(400), ErrMessage, "Copy", 400)
	refused(t, c.Again(0), ErrMany, "Again", 0)
	refused(t, c.Again(1), ErrTx, "Again", 1)
	_, err := c.Submit([]Op{r('a')})
	refused(t, err, ErrMany, "Submit", 0)
	_, err = c.Submit([]Op{r('a'), r('a')})
	refused(t, err, ErrOps, "Submit", 0)
	same(t, "the full bag", taken(c), ahead)
	works(t, c.Drop(399), c.Copy(398))
	refused(t, c.Copy(0), ErrMany, "Copy", 0)
	works(t, c.Deliver(7)) // two prepares join it
	same(t, "what the bag holds", len(c.Bag()), 401)
	for range 2 {
		refused(t, c.Copy(0), ErrMany, "Copy", 0)
		refused(t, c.Again(0), ErrMany, "Again", 0)
		_, err = c.Submit([]Op{r('a')})
		refused(t, err, ErrMany, "Submit", 0)
		works(t, c.Drop(0))
	}
	works(t, c.Again(0))
	refused(t, c.Again(0), ErrMany, "Again", 0)
	works(t, c.Drop(0))
	same(t, "the number", submitted(t, c, r('a')), 1)
}

// P4: at a shard that is down nothing happens, but that the message is gone.
func TestDeliverToOneThatIsDown(t *testing.T) {
	c := filled(t)
	works(t, c.Drop(0), c.Drop(0), c.Drop(0))
	works(t, c.Crash(0, 0))
	ahead := taken(c)
	for _, m := range []message{
		begin{letter{client, 0, 1}, []Op{r('c')}},
		prepare{letter{0, 0, 1}, []Op{r('c')}},
		vote{letter{0, 0, 1}, true, []int32{0}}, vote{letter: letter{0, 0, 1}},
		decide{letter{0, 0, 1}, true}, decide{letter: letter{0, 0, 1}},
		ack{letter{0, 0, 1}},
		ask{letter{1, 0, 1}},
	} {
		comes(t, c, m)
		same(t, "behind it", taken(c), ahead)
	}
	works(t, c.Restart(0), c.Sync(0))
	bagIs(t, c, "behind a sync")
	logIs(t, c, 0, 0)
}
