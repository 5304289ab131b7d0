package cluster

import (
	"maps"
	"slices"
)

// sync writes all records for good, and sends what has waited for that.
func (s *shard) sync() {
	s.good = len(s.log)
	s.send(s.held...)
	s.held = nil
}

// crash leaves what is for good, and the first keep records of what is not: so far the disk may have come by itself.
func (s *shard) crash(keep int) {
	s.up = false
	s.good += min(max(keep, 0), len(s.log)-s.good)
	s.log = slices.Delete(s.log, s.good, len(s.log))
	s.memory = emptyMemory()
}

// restart learns from the log what the crash has taken; how a transaction that is prepared was decided must be asked.
func (s *shard) restart() {
	s.up = true
	for _, r := range s.log {
		s.learn(r)
	}
	for _, tx := range slices.Sorted(maps.Keys(s.prepared)) {
		s.askLater(tx)
	}
}
