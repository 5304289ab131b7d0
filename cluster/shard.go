package cluster

// shard is one of the cluster's. What it has is touched by its goroutine while that works, else (under the cluster's mutex) by whoever asks what is there.
type shard struct {
	up     bool
	values map[byte]int32
	locks  map[byte]int
	log    []Record
	good   int // how many records of the log are for good

	work   chan func()
	worked chan struct{}
}

func newShard() *shard {
	return &shard{
		up:     true,
		values: map[byte]int32{},
		locks:  map[byte]int{},
		work:   make(chan func()),
		worked: make(chan struct{}),
	}
}

// live works whenever the channel says so, until the cluster is stopped.
func (s *shard) live(done <-chan struct{}) {
	for {
		select {
		case job := <-s.work:
			job()
			s.worked <- struct{}{}
		case <-done:
			return
		}
	}
}

// do has the shard's goroutine do a job, and waits for its end: so only one shard works at a time, and what is answered never hangs on how goroutines run.
func (s *shard) do(job func()) {
	s.work <- job
	<-s.worked
}

// takeIn is where a message comes in. What a shard does with it (P5, P6) is not built yet, so it is lost, as it always is at a shard that is down.
func (s *shard) takeIn(m Message) {
}
