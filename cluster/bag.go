package cluster

import "slices"

// bag holds the messages that have been sent, in that order. What a message's lists hold is never changed, so copies within the bag may share them.
type bag []Message

func (b bag) full() bool {
	return len(b) >= maxBag
}

func (b bag) has(i int) bool {
	return i >= 0 && i < len(b)
}

func (b *bag) put(m Message) {
	*b = append(*b, m)
}

func (b *bag) take(i int) Message {
	m := (*b)[i]
	*b = slices.Delete(*b, i, i+1)
	return m
}

// told is the bag as the driver may have it: all of it new.
func (b bag) told() []Message {
	all := make([]Message, 0, len(b))
	for _, m := range b {
		all = append(all, freshMessage(m))
	}
	return all
}
