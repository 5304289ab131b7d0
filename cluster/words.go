package cluster

// The limits of the document.
const (
	maxShards       = 4
	maxTransactions = 60
	maxOps          = 6
	maxBag          = 400
)

// client is what a message names instead of a shard when the client sends or receives it.
const client = -1

// The kinds of messages.
const (
	begin = iota + 1
	prepare
	vote
	decide
	ack
	ask
	reply
)

// What becomes of a transaction, as Result tells it; 0 is left for no transaction.
const (
	pending = iota + 1
	committed
	aborted
)

// isTransaction tells whether the operations may be submitted together.
func isTransaction(ops []Op) bool {
	if len(ops) < 1 || len(ops) > maxOps {
		return false
	}
	for i, op := range ops {
		if !isOperation(op) || touches(ops[:i], op.Key) {
			return false
		}
	}
	return true
}

func isOperation(op Op) bool {
	return op.Key >= 'a' && op.Key <= 'z' && (op.Write || op.Value == 0)
}

// touches tells whether one of the operations is on the key.
func touches(ops []Op, key byte) bool {
	for _, op := range ops {
		if op.Key == key {
			return true
		}
	}
	return false
}

// place is the shard on which a key lies.
func place(key byte, shards int) int {
	return int(key-'a') % shards
}

// fresh copies a list, so that neither side sees what the other does to it; an empty one is nil.
func fresh[T any](list []T) []T {
	if len(list) == 0 {
		return nil
	}
	made := make([]T, len(list))
	copy(made, list)
	return made
}

func freshMessage(m Message) Message {
	m.Ops, m.Reads = fresh(m.Ops), fresh(m.Reads)
	return m
}

func freshRecord(r Record) Record {
	r.Ops, r.Reads = fresh(r.Ops), fresh(r.Reads)
	return r
}
