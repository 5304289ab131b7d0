package cluster

// transaction is what the client keeps of one: what to begin again, and what has become of it.
type transaction struct {
	ops    []Op
	result int
	reads  []int32
}

// transactions are all of the client's; the place of one is its number.
type transactions []transaction

func (t transactions) full() bool {
	return len(t) >= maxTransactions
}

func (t transactions) has(tx int) bool {
	return tx >= 0 && tx < len(t)
}

// add keeps a copy of the operations, as the list is the caller's, and answers the new number.
func (t *transactions) add(ops []Op) int {
	*t = append(*t, transaction{ops: fresh(ops), result: pending})
	return len(*t) - 1
}

// beginOf is the message that asks the home to carry the transaction out.
func (t transactions) beginOf(tx int, shards int) Message {
	ops := t[tx].ops
	return Message{Kind: begin, From: client, To: place(ops[0].Key, shards), Tx: tx, Ops: ops}
}

// hear takes a message to the client in: only the first reply counts.
func (t transactions) hear(m Message) {
	if m.Kind != reply || !t.has(m.Tx) || t[m.Tx].result != pending {
		return
	}
	if !m.Yes {
		t[m.Tx].result = aborted
		return
	}
	t[m.Tx].result, t[m.Tx].reads = committed, m.Reads
}
