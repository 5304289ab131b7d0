package cluster

// shard is one of the cluster's. What it has is touched by its goroutine while that works, else (under the cluster's mutex) by whoever asks what is there.
type shard struct {
	number, shards int // its own, and how many there are
	up             bool
	log            []record
	good           int // how many records of the log are for good
	memory
	sent   []message // by the job that is being done
	work   chan func()
	worked chan []message
}

// memory is what a shard has beside its log.
type memory struct {
	values   map[byte]int32
	locks    map[byte]int // by which transaction
	prepared map[int]prepared
	done     map[int]done
	decided  map[int]decided
	underWay map[int]*underWay
	held     []message // they wait for the disk
	clock    int
	timers   timers
}

func newShard(number, shards int) *shard {
	return &shard{
		number: number,
		shards: shards,
		up:     true,
		memory: emptyMemory(),
		work:   make(chan func()),
		worked: make(chan []message),
	}
}

func emptyMemory() memory {
	return memory{
		values:   map[byte]int32{},
		locks:    map[byte]int{},
		prepared: map[int]prepared{},
		done:     map[int]done{},
		decided:  map[int]decided{},
		underWay: map[int]*underWay{},
	}
}

// live works whenever the channel says so, until the cluster is stopped.
func (s *shard) live(done <-chan struct{}) {
	for {
		select {
		case job := <-s.work:
			job()
			sent := s.sent
			s.sent = nil
			s.worked <- sent
		case <-done:
			return
		}
	}
}

// do has the shard's goroutine do a job, and waits for what that sends: so only one shard works at a time, and what is answered never hangs on how goroutines run.
func (s *shard) do(job func()) []message {
	s.work <- job
	return <-s.worked
}

// takeIn is where a message comes in; at a shard that is down it is lost.
func (s *shard) takeIn(m message) {
	if !s.up {
		return
	}
	switch m := m.(type) {
	case begin:
		s.takeBegin(m)
	case prepare:
		s.takePrepare(m)
	case vote:
		s.takeVote(m)
	case decide:
		s.takeDecide(m)
	case ack:
		s.takeAck(m)
	case ask:
		s.takeAsk(m)
	}
}

func (s *shard) send(all ...message) {
	s.sent = append(s.sent, all...)
}

// hold keeps a message back until what it tells of is on the disk.
func (s *shard) hold(m message) {
	s.held = append(s.held, m)
}

func (s *shard) mustBeUp() error {
	if !s.up {
		return ErrDown
	}
	return nil
}

func (s *shard) mustBeDown() error {
	if s.up {
		return ErrUp
	}
	return nil
}

// letter is one of this shard's.
func (s *shard) letter(to, tx int) letter {
	return letter{from: s.number, to: to, tx: tx}
}

// entry is for the record that is written next.
func (s *shard) entry(tx int) entry {
	return entry{tx: tx, at: len(s.log)}
}

func (s *shard) forGood(e entry) bool {
	return e.at < s.good
}

func (s *shard) write(r record) {
	s.log = append(s.log, r)
	s.learn(r)
}

// learn takes over into the memory what a record tells.
func (s *shard) learn(r record) {
	switch r := r.(type) {
	case prepared:
		s.lock(r)
		s.prepared[r.tx] = r
	case decided:
		s.decided[r.tx] = r
	case done:
		s.end(r)
		s.done[r.tx] = r
	}
}

func (s *shard) lock(p prepared) {
	for _, op := range p.part {
		s.locks[op.Key] = p.tx
	}
}

// end does what was prepared, or lets it be; a transaction that is done with no need never have been prepared.
func (s *shard) end(d done) {
	for _, op := range s.prepared[d.tx].part {
		if d.yes && op.Write {
			s.values[op.Key] = op.Value
		}
		delete(s.locks, op.Key)
	}
	delete(s.prepared, d.tx)
}
