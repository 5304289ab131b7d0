package cluster

// The limits of the document.
const (
	maxShards       = 4
	maxTransactions = 60
	maxOps          = 6
	maxBag          = 400
	maxTickBag      = 150 // with more in the bag, no time passes
)

// client is what a message names instead of a shard when the client sends or receives it.
const client = -1

// The kinds of messages, as a Message names them.
const (
	beginKind = iota + 1
	prepareKind
	voteKind
	decideKind
	ackKind
	askKind
	replyKind
)

// The kinds of records, as a Record names them.
const (
	preparedKind = iota + 1
	decidedKind
	doneKind
)

// What becomes of a transaction, as Result tells it; 0 is left for no transaction.
const (
	pending = iota + 1
	committed
	aborted
)

// isTransaction tells whether the operations may be submitted together.
func isTransaction(ops []Op) bool {
	if len(ops) < 1 || len(ops) > maxOps {
		return false
	}
	for i, op := range ops {
		if !isOperation(op) || touches(ops[:i], op.Key) {
			return false
		}
	}
	return true
}

func isOperation(op Op) bool {
	return op.Key >= 'a' && op.Key <= 'z' && (op.Write || op.Value == 0)
}

// touches tells whether one of the operations is on the key.
func touches(ops []Op, key byte) bool {
	for _, op := range ops {
		if op.Key == key {
			return true
		}
	}
	return false
}

// place is the shard on which a key lies.
func place(key byte, shards int) int {
	return int(key-'a') % shards
}

// part is what of a transaction lies on one shard.
type part struct {
	shard int
	ops   []Op
}

// partsOf are a transaction's parts, in the order of the shards' numbers.
func partsOf(ops []Op, shards int) []part {
	var parts []part
	for s := range shards {
		if own := opsOn(s, ops, shards); len(own) > 0 {
			parts = append(parts, part{s, own})
		}
	}
	return parts
}

func opsOn(s int, ops []Op, shards int) []Op {
	var own []Op
	for _, op := range ops {
		if place(op.Key, shards) == s {
			own = append(own, op)
		}
	}
	return own
}

// fresh copies a list, so that neither side sees what the other does to it; an empty one is nil.
func fresh[T any](list []T) []T {
	if len(list) == 0 {
		return nil
	}
	made := make([]T, len(list))
	copy(made, list)
	return made
}
