package cluster

import "testing"

// P3: what is a transaction, and what is none.
func TestTransactions(t *testing.T) {
	for _, ops := range [][]Op{
		nil, {},
		{r('a'), r('b'), r('c'), r('d'), r('e'), r('f'), r('g')},
		{r('a'), r('a')}, {r('a'), w('a', 1)}, {w('a', 1), w('a', 1)}, {r('c'), r('a'), r('b'), r('a')},
		{r('a' - 1)}, {r('z' + 1)}, {r('A')}, {r(0)}, {r(255)}, {w('{', 1)}, {r('a'), w('`', 1)},
		{{Key: 'a', Value: 1}}, {r('a'), {Key: 'b', Value: -1}},
		{r('a'), {}},
	} {
		c := made(t, 3)
		tx, err := c.Submit(ops)
		same(t, "the number", tx, 0)
		refused(t, err, ErrOps, "Submit", 0)
		same(t, "the bag", len(c.Bag()), 0)
		result, _ := c.Result(0)
		same(t, "the result", result, 0)
	}
	c := made(t, 3)
	for i, ops := range [][]Op{
		{r('a')}, {w('z', 0)}, {w('a', 1<<31-1)}, {w('a', -1<<31)},
		{r('f'), w('e', 1), r('d'), w('c', 2), r('b'), w('a', 3)},
	} {
		same(t, "the number", submitted(t, c, ops...), i)
	}
}

// P3: the begin goes from the client to the home, which the first key tells.
func TestBegins(t *testing.T) {
	for shards := 1; shards <= 4; shards++ {
		c := made(t, shards)
		for i := range 26 {
			key := byte('a' + i)
			ops := []Op{w(key, int32(i)), r('a' + byte((i+1)%26))}
			same(t, "the number", submitted(t, c, ops...), i)
			same(t, "the begin", c.Bag()[i], Message{Kind: 1, From: -1, To: i % shards, Tx: i, Ops: ops})
			result, reads := c.Result(i)
			same(t, "the result", result, 1)
			same(t, "its reads", len(reads), 0)
		}
	}
}

// P3: Again sends such a begin once more, also when the result is there.
func TestAgain(t *testing.T) {
	c := made(t, 2)
	submitted(t, c, r('b'), w('a', 3))
	submitted(t, c, r('c'))
	works(t, c.Again(1), c.Again(0), c.Again(0))
	bag := c.Bag()
	same(t, "the bag", len(bag), 5)
	same(t, "the third", bag[2], bag[1])
	same(t, "the fourth", bag[3], bag[0])
	same(t, "the fifth", bag[4], bag[0])
	comes(t, c, reply{letter: letter{1, client, 0}})
	works(t, c.Again(0))
	same(t, "the last", c.Bag()[5], bag[0])
	result, _ := c.Result(0)
	same(t, "the result behind Again", result, 3)
	for _, tx := range append(oddNumbers(), 2, 3, 59, 60) {
		refused(t, c.Again(tx), ErrTx, "Again", tx)
	}
}

// P3: 60 transactions, and no more, whatever has become of their messages.
func TestSixtyTransactions(t *testing.T) {
	c := made(t, 1)
	for tx := range 60 {
		same(t, "the number", submitted(t, c, r('a')), tx)
		works(t, c.Drop(0))
	}
	tx, err := c.Submit([]Op{r('a')})
	same(t, "the number", tx, 0)
	refused(t, err, ErrMany, "Submit", 0)
	_, err = c.Submit([]Op{r('A')})
	refused(t, err, ErrOps, "Submit", 0)
	same(t, "the bag", len(c.Bag()), 0)
	result, _ := c.Result(60)
	same(t, "the result of a sixty-first", result, 0)
	works(t, c.Again(59))
	refused(t, c.Again(60), ErrTx, "Again", 60)
}

// P3: what was refused has taken no number.
func TestRefusedTakesNoNumber(t *testing.T) {
	c := made(t, 1)
	_, err := c.Submit(nil)
	refused(t, err, ErrOps, "Submit", 0)
	same(t, "the number", submitted(t, c, r('a')), 0)
	full(t, c)
	_, err = c.Submit([]Op{r('a')})
	refused(t, err, ErrMany, "Submit", 0)
	works(t, c.Drop(0))
	same(t, "the number", submitted(t, c, r('a')), 1)
}

// P4: a reply sets the result, if it is pending still.
func TestFirstReplyCounts(t *testing.T) {
	yes := reply{letter{0, client, 1}, true, []int32{4, -5}}
	other := reply{letter{0, client, 1}, true, []int32{6, 7}}
	no := reply{letter: letter{0, client, 1}}
	for _, row := range []struct {
		replies []reply
		result  int
		reads   []int32
	}{
		{[]reply{yes}, 2, []int32{4, -5}},
		{[]reply{no}, 3, nil},
		{[]reply{yes, no, other}, 2, []int32{4, -5}},
		{[]reply{no, yes}, 3, nil},
	} {
		c := made(t, 2)
		submitted(t, c, r('a'))
		submitted(t, c, r('c'), r('b'))
		for _, m := range row.replies {
			c.bag.put(m)
		}
		for range row.replies {
			works(t, c.Deliver(2))
		}
		result, reads := c.Result(1)
		same(t, "the result", result, row.result)
		same(t, "its reads", reads, row.reads)
		result, _ = c.Result(0)
		same(t, "the other's result", result, 1)
		same(t, "the bag", len(c.Bag()), 2)
	}
}

// P4: a reply of a transaction without reads commits it, too.
func TestReplyWithoutReads(t *testing.T) {
	c := made(t, 1)
	submitted(t, c, w('a', 1))
	comes(t, c, reply{letter: letter{0, client, 0}, yes: true})
	result, reads := c.Result(0)
	same(t, "the result", result, 2)
	same(t, "its reads", len(reads), 0)
}

// P4: a reply that is dropped has never been.
func TestDroppedReply(t *testing.T) {
	c := made(t, 1)
	submitted(t, c, r('a'))
	c.bag.put(reply{letter{0, client, 0}, true, []int32{0}})
	works(t, c.Drop(1))
	result, _ := c.Result(0)
	same(t, "the result", result, 1)
}
