package cluster

// record is one of a log as it is within: what kind it is, its type says. What its lists hold is never changed.
type record interface {
	told() Record
}

// entry is what every record has: its transaction, and its place in the log, which tells whether it is for good.
type entry struct{ tx, at int }

func (e entry) as(kind int) Record {
	return Record{Kind: kind, Tx: e.tx}
}

type prepared struct {
	entry
	home int
	part []Op
}

type decided struct {
	entry
	yes   bool
	reads []int32
}

type done struct {
	entry
	yes bool
}

func (r prepared) told() Record {
	told := r.as(preparedKind)
	told.Home, told.Ops = r.home, fresh(r.part)
	return told
}

func (r decided) told() Record {
	told := r.as(decidedKind)
	told.Yes, told.Reads = r.yes, fresh(r.reads)
	return told
}

func (r done) told() Record {
	told := r.as(doneKind)
	told.Yes = r.yes
	return told
}
