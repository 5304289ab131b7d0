package cluster

func (s *shard) takePrepare(m prepare) {
	if p, is := s.prepared[m.tx]; is {
		if s.forGood(p.entry) {
			s.send(s.yesTo(m))
		}
		return
	}
	if d, is := s.done[m.tx]; is {
		if !d.yes {
			s.send(s.noTo(m))
		}
		return
	}
	if s.isLocked(m.part) {
		s.send(s.noTo(m))
		return
	}
	s.write(prepared{s.entry(m.tx), m.from, m.part})
	s.hold(s.yesTo(m))
	s.askLater(m.tx)
}

func (s *shard) takeDecide(m decide) {
	if d, is := s.done[m.tx]; is {
		if s.forGood(d.entry) {
			s.send(s.ackTo(m))
		}
		return
	}
	if _, is := s.prepared[m.tx]; !is && m.yes {
		return
	}
	s.write(done{s.entry(m.tx), m.yes})
	s.hold(s.ackTo(m))
}

// askHome asks how a transaction was decided; of one that is no longer prepared here there is nothing to ask, ever more.
func (s *shard) askHome(tx int) {
	p, is := s.prepared[tx]
	if !is {
		return
	}
	s.send(ask{s.letter(p.home, tx)})
	s.askLater(tx)
}

// isLocked tells whether one of the operations is on a key that is locked.
func (s *shard) isLocked(ops []Op) bool {
	for _, op := range ops {
		if _, is := s.locks[op.Key]; is {
			return true
		}
	}
	return false
}

// yesTo is a vote with the values as they are now.
func (s *shard) yesTo(m prepare) vote {
	var reads []int32
	for _, op := range m.part {
		if !op.Write {
			reads = append(reads, s.values[op.Key])
		}
	}
	return vote{s.letter(m.from, m.tx), true, reads}
}

func (s *shard) noTo(m prepare) vote {
	return vote{letter: s.letter(m.from, m.tx)}
}

func (s *shard) ackTo(m decide) ack {
	return ack{s.letter(m.from, m.tx)}
}
