package cluster

import (
	"errors"
	"reflect"
	"testing"
)

func r(key byte) Op { return Op{Key: key} }

func w(key byte, value int32) Op { return Op{Write: true, Key: key, Value: value} }

// made is a cluster that is stopped when the test ends.
func made(t *testing.T, shards int) *Cluster {
	t.Helper()
	c, err := New(shards)
	if c == nil || err != nil {
		t.Fatalf("New(%d) = %v, %v", shards, c, err)
	}
	t.Cleanup(c.Stop)
	return c
}

// submitted is the number of a transaction that must be taken.
func submitted(t *testing.T, c *Cluster, ops ...Op) int {
	t.Helper()
	tx, err := c.Submit(ops)
	if err != nil {
		t.Fatalf("Submit(%v): %v", ops, err)
	}
	return tx
}

// works: these calls must answer no error.
func works(t *testing.T, errs ...error) {
	t.Helper()
	for i, err := range errs {
		if err != nil {
			t.Fatalf("call %d: %v", i, err)
		}
	}
}

// refused: the error must be this one, of that call and number.
func refused(t *testing.T, err, why error, call string, at int) {
	t.Helper()
	var e *CallError
	if !errors.As(err, &e) || err != error(e) || e.Call != call || e.At != at || e.Err != why || !errors.Is(err, why) {
		t.Errorf("%s(%d): %v, want %v", call, at, err, why)
	}
}

// onlyOfShards: a call must be refused where no shard is, and taken where one is, though there is nothing to do.
func onlyOfShards(t *testing.T, call string, do func(*Cluster, int) error) {
	t.Helper()
	for shards := 1; shards <= 4; shards++ {
		c := made(t, shards)
		for _, s := range append(oddNumbers(), shards, 4) {
			refused(t, do(c, s), ErrShard, call, s)
		}
		for s := range shards {
			works(t, do(c, s), do(c, s))
		}
		bagIs(t, c, "with nothing to do")
	}
}

// same: what is told must be this.
func same(t *testing.T, what string, got, want any) {
	t.Helper()
	if !reflect.DeepEqual(got, want) {
		t.Errorf("%s: %v, want %v", what, got, want)
	}
}

// comes: a message that no shard has sent comes in.
func comes(t *testing.T, c *Cluster, m message) {
	t.Helper()
	c.bag.put(m)
	works(t, c.Deliver(len(c.bag)-1))
}

// deliver lets the first messages of the bag come in, one behind the other.
func deliver(t *testing.T, c *Cluster, many int) {
	t.Helper()
	for range many {
		works(t, c.Deliver(0))
	}
}

// bagIs: these messages, and no others, must be in the bag.
func bagIs(t *testing.T, c *Cluster, when string, want ...Message) {
	t.Helper()
	same(t, "the bag "+when, c.Bag(), append([]Message{}, want...))
}

// logIs: a shard must have written these records, and so many of them must be for good.
func logIs(t *testing.T, c *Cluster, s, good int, want ...Record) {
	t.Helper()
	log, n := c.Records(s)
	same(t, "the log", append([]Record{}, log...), append([]Record{}, want...))
	same(t, "for good", n, good)
}

// The messages, as Bag tells them.

func toPrepare(from, to, tx int, ops ...Op) Message {
	return Message{Kind: 2, From: from, To: to, Tx: tx, Ops: ops}
}

func voteYes(from, to, tx int, reads ...int32) Message {
	return Message{Kind: 3, From: from, To: to, Tx: tx, Yes: true, Reads: reads}
}

func voteNo(from, to, tx int) Message { return Message{Kind: 3, From: from, To: to, Tx: tx} }

func toDecide(from, to, tx int, yes bool) Message {
	return Message{Kind: 4, From: from, To: to, Tx: tx, Yes: yes}
}

func toAck(from, to, tx int) Message { return Message{Kind: 5, From: from, To: to, Tx: tx} }

func replyYes(from, tx int, reads ...int32) Message {
	return Message{Kind: 7, From: from, To: -1, Tx: tx, Yes: true, Reads: reads}
}

func replyNo(from, tx int) Message { return Message{Kind: 7, From: from, To: -1, Tx: tx} }

// The records, as Records tells them.

func isPrepared(tx, home int, ops ...Op) Record {
	return Record{Kind: 1, Tx: tx, Home: home, Ops: ops}
}

func decidedYes(tx int, reads ...int32) Record {
	return Record{Kind: 2, Tx: tx, Yes: true, Reads: reads}
}

func decidedNo(tx int) Record { return Record{Kind: 2, Tx: tx} }

func isDone(tx int, yes bool) Record { return Record{Kind: 3, Tx: tx, Yes: yes} }

// picture is all that P9 tells of a cluster.
type picture struct {
	bag     []Message
	results []int
	reads   [][]int32
	up      []bool
	values  []map[byte]int32
	locks   []map[byte]int
	logs    [][]Record
	good    []int
}

func taken(c *Cluster) picture {
	p := picture{bag: c.Bag()}
	for tx := range maxTransactions {
		result, reads := c.Result(tx)
		p.results, p.reads = append(p.results, result), append(p.reads, reads)
	}
	for s := range maxShards {
		log, good := c.Records(s)
		p.up = append(p.up, c.Up(s))
		p.values = append(p.values, c.Values(s))
		p.locks = append(p.locks, c.Locks(s))
		p.logs, p.good = append(p.logs, log), append(p.good, good)
	}
	return p
}

// numbered are the methods that take a number and answer an error.
func numbered(c *Cluster) map[string]func(int) error {
	return map[string]func(int) error{
		"Again":   c.Again,
		"Deliver": c.Deliver,
		"Drop":    c.Drop,
		"Copy":    c.Copy,
		"Sync":    c.Sync,
		"Tick":    c.Tick,
		"Crash":   func(s int) error { return c.Crash(s, s) },
		"Restart": c.Restart,
	}
}

// oddNumbers are those that nothing has.
func oddNumbers() []int { return []int{-1 << 63, -2, -1, 400, 1 << 40, 1<<63 - 1} }

// filled is a cluster of 2 shards that has something of everything P9 tells.
func filled(t *testing.T) *Cluster {
	t.Helper()
	c := made(t, 2)
	submitted(t, c, w('a', 5), r('b'))
	submitted(t, c, r('c'))
	comes(t, c, reply{letter{0, client, 0}, true, []int32{7}})
	c.bag.put(vote{letter{1, 0, 1}, true, []int32{8}})
	s := c.shards[1]
	s.values['b'] = 9
	s.locks['d'] = 1
	s.log = []record{prepared{entry{1, 0}, 0, []Op{r('d')}}, decided{entry{0, 1}, true, []int32{7}}}
	s.good = 1
	return c
}
