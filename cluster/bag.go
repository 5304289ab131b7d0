package cluster

import "slices"

// bag holds the messages that have been sent, in that order.
type bag []message

func (b bag) full() bool {
	return len(b) >= maxBag
}

func (b bag) busy() bool {
	return len(b) > maxTickBag
}

func (b bag) has(i int) bool {
	return i >= 0 && i < len(b)
}

func (b *bag) put(sent ...message) {
	*b = append(*b, sent...)
}

func (b *bag) take(i int) message {
	m := (*b)[i]
	*b = slices.Delete(*b, i, i+1)
	return m
}

// told is the bag as the driver may have it: all of it new.
func (b bag) told() []Message {
	all := make([]Message, 0, len(b))
	for _, m := range b {
		all = append(all, m.told())
	}
	return all
}
