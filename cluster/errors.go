package cluster

import (
	"errors"
	"strconv"
)

var (
	ErrShape   = errors.New("no such cluster")
	ErrOps     = errors.New("no transaction")
	ErrMany    = errors.New("too many")
	ErrTx      = errors.New("no such transaction")
	ErrMessage = errors.New("no such message")
	ErrShard   = errors.New("no such shard")
	ErrDown    = errors.New("a shard that is down")
	ErrUp      = errors.New("a shard that is up")
	ErrStopped = errors.New("the cluster has been stopped")
)

// CallError is an error of a method: which one, with which (first) number, and why.
type CallError struct {
	Call string
	At   int
	Err  error
}

func (e *CallError) Error() string {
	if e == nil {
		return ""
	}
	text := e.Call + "(" + strconv.Itoa(e.At) + ")"
	if e.Err == nil {
		return text
	}
	return text + ": " + e.Err.Error()
}

func (e *CallError) Unwrap() error {
	if e == nil {
		return nil
	}
	return e.Err
}
