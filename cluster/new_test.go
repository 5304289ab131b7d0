package cluster

import "testing"

// P2: 1 to 4 shards, all up, all empty.
func TestNew(t *testing.T) {
	for n := 1; n <= 4; n++ {
		c := made(t, n)
		for s := range 5 {
			log, good := c.Records(s)
			same(t, "up", c.Up(s), s < n)
			same(t, "the log", len(log), 0)
			same(t, "for good", good, 0)
			same(t, "the values", c.Values(s), map[byte]int32{})
			same(t, "the locks", c.Locks(s), map[byte]int{})
		}
		same(t, "the bag", len(c.Bag()), 0)
	}
}

// P2: the error is as it is, not in a CallError.
func TestNoSuchShape(t *testing.T) {
	for _, n := range append(oddNumbers(), 0, 5, 6, 257) {
		if c, err := New(n); c != nil || err != ErrShape {
			t.Errorf("New(%d) = %v, %v", n, c, err)
		}
	}
}

// Each cluster is one of its own.
func TestClustersAreApart(t *testing.T) {
	one, other := made(t, 1), made(t, 1)
	submitted(t, one, r('a'))
	same(t, "the other's bag", len(other.Bag()), 0)
	same(t, "the other's number", submitted(t, other, r('b')), 0)
	one.Stop()
	works(t, other.Again(0))
}
