package cluster

// message is one as it is within: what kind it is, its type says. What its lists hold is never changed, so several messages, and records, may share them.
type message interface {
	receiver() int
	told() Message
}

// letter is what every message has.
type letter struct{ from, to, tx int }

func (l letter) receiver() int { return l.to }

func (l letter) as(kind int) Message {
	return Message{Kind: kind, From: l.from, To: l.to, Tx: l.tx}
}

type begin struct {
	letter
	ops []Op
}

type prepare struct {
	letter
	part []Op
}

type vote struct {
	letter
	yes   bool
	reads []int32
}

type decide struct {
	letter
	yes bool
}

type ack struct{ letter }

type ask struct{ letter }

type reply struct {
	letter
	yes   bool
	reads []int32
}

func (m begin) told() Message {
	told := m.as(beginKind)
	told.Ops = fresh(m.ops)
	return told
}

func (m prepare) told() Message {
	told := m.as(prepareKind)
	told.Ops = fresh(m.part)
	return told
}

func (m vote) told() Message {
	told := m.as(voteKind)
	told.Yes, told.Reads = m.yes, fresh(m.reads)
	return told
}

func (m decide) told() Message {
	told := m.as(decideKind)
	told.Yes = m.yes
	return told
}

func (m ack) told() Message { return m.as(ackKind) }

func (m ask) told() Message { return m.as(askKind) }

func (m reply) told() Message {
	told := m.as(replyKind)
	told.Yes, told.Reads = m.yes, fresh(m.reads)
	return told
}
