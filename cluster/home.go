package cluster

// underWay is what a home knows of a transaction that it carries out. How that was decided, the home's decided record says.
type underWay struct {
	ops   []Op
	parts []part
	yes   map[int][]int32  // who has voted so, with which reads
	acked map[int]struct{} // who has
}

func newUnderWay(ops []Op, shards int) *underWay {
	return &underWay{
		ops:   ops,
		parts: partsOf(ops, shards),
		yes:   map[int][]int32{},
		acked: map[int]struct{}{},
	}
}

// hear remembers a yes: of one shard the first counts.
func (u *underWay) hear(m vote) {
	if _, heard := u.yes[m.from]; !heard {
		u.yes[m.from] = m.reads
	}
}

// notYes are the parts of those who have not said yes.
func (u *underWay) notYes() []part {
	return lacking(u.parts, u.yes)
}

// notAcked are the parts of those who have not acked.
func (u *underWay) notAcked() []part {
	return lacking(u.parts, u.acked)
}

// lacking are the parts whose shards have nothing in the map, in their order.
func lacking[T any](parts []part, said map[int]T) []part {
	var left []part
	for _, p := range parts {
		if _, has := said[p.shard]; !has {
			left = append(left, p)
		}
	}
	return left
}

// reads brings the votes' reads into the order of the operations.
func (u *underWay) reads(shards int) []int32 {
	var all []int32
	used := make([]int, shards)
	for _, op := range u.ops {
		if op.Write {
			continue
		}
		at := place(op.Key, shards)
		all = append(all, u.yes[at][used[at]])
		used[at]++
	}
	return all
}

func (s *shard) takeBegin(m begin) {
	if d, is := s.decided[m.tx]; is {
		if s.forGood(d.entry) {
			s.send(s.replyOf(d))
		}
		return
	}
	if _, is := s.underWay[m.tx]; is {
		return
	}
	u := newUnderWay(m.ops, s.shards)
	s.underWay[m.tx] = u
	s.sendPrepares(m.tx, u)
	s.againLater(m.tx)
}

func (s *shard) takeVote(m vote) {
	u, is := s.underWay[m.tx]
	if !is || s.hasDecided(m.tx) {
		return
	}
	if !m.yes {
		s.decideAll(u, decided{entry: s.entry(m.tx)})
		return
	}
	u.hear(m)
	if len(u.notYes()) == 0 {
		s.decideAll(u, decided{s.entry(m.tx), true, u.reads(s.shards)})
	}
}

func (s *shard) takeAck(m ack) {
	u, is := s.underWay[m.tx]
	if !is || !s.hasDecided(m.tx) {
		return
	}
	u.acked[m.from] = struct{}{}
	if len(u.notAcked()) == 0 {
		delete(s.underWay, m.tx)
	}
}

func (s *shard) takeAsk(m ask) {
	if d, is := s.decided[m.tx]; is {
		if s.forGood(d.entry) {
			s.send(s.decideOf(d, m.from))
		}
		return
	}
	if _, is := s.underWay[m.tx]; is {
		return
	}
	// The home has forgotten it, so nobody can have been told yes.
	d := decided{entry: s.entry(m.tx)}
	s.write(d)
	s.hold(s.decideOf(d, m.from))
}

// decideAll decides a transaction that is under way; all hear of it when that is on the disk.
func (s *shard) decideAll(u *underWay, d decided) {
	s.write(d)
	for _, p := range u.parts {
		s.hold(s.decideOf(d, p.shard))
	}
	s.hold(s.replyOf(d))
}

// remind sends once more what somebody has not answered, of a transaction that is under way.
func (s *shard) remind(tx int) {
	u, is := s.underWay[tx]
	if !is {
		return
	}
	if d, is := s.decided[tx]; !is {
		s.sendPrepares(tx, u)
	} else if s.forGood(d.entry) {
		s.sendDecides(d, u)
	}
	s.againLater(tx)
}

func (s *shard) sendPrepares(tx int, u *underWay) {
	for _, p := range u.notYes() {
		s.send(prepare{s.letter(p.shard, tx), p.ops})
	}
}

func (s *shard) sendDecides(d decided, u *underWay) {
	for _, p := range u.notAcked() {
		s.send(s.decideOf(d, p.shard))
	}
}

func (s *shard) hasDecided(tx int) bool {
	_, is := s.decided[tx]
	return is
}

func (s *shard) decideOf(d decided, to int) decide {
	return decide{s.letter(to, d.tx), d.yes}
}

func (s *shard) replyOf(d decided) reply {
	return reply{s.letter(client, d.tx), d.yes, d.reads}
}
