package cluster

// transaction is what the client keeps of one: what to begin again, and what has become of it.
type transaction struct {
	ops    []Op
	result int
	reads  []int32
}

// transactions are all of the client's; the place of one is its number.
type transactions []transaction

func (t transactions) full() bool {
	return len(t) >= maxTransactions
}

func (t transactions) has(tx int) bool {
	return tx >= 0 && tx < len(t)
}

// add keeps a copy of the operations, as the list is the caller's, and answers the new number.
func (t *transactions) add(ops []Op) int {
	*t = append(*t, transaction{ops: fresh(ops), result: pending})
	return len(*t) - 1
}

// beginOf is the message that asks the home to carry the transaction out.
func (t transactions) beginOf(tx int, shards int) begin {
	ops := t[tx].ops
	home := place(ops[0].Key, shards)
	return begin{letter{from: client, to: home, tx: tx}, ops}
}

// hear takes a message to the client in: only the first reply counts.
func (t transactions) hear(m message) {
	r, is := m.(reply)
	if !is || t[r.tx].result != pending {
		return
	}
	if !r.yes {
		t[r.tx].result = aborted
		return
	}
	t[r.tx].result, t[r.tx].reads = committed, r.reads
}
