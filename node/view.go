package node

import (
	"viewmere/api"
	"viewmere/inc"
	"viewmere/zset"
)

// sets of both tables.
type sets [api.Tables][]api.Item

// view: a kept query, and what it couldn't take. While its query has an error of the tables, the kept
// query stays at the last ones of which it had none; so it can go on from there when the error is gone.
type view struct {
	inc.View
	missed sets
	err    api.Errno
}

// turn: what came to both tables is taken, with what was missed.
func (v *view) turn(more sets) {
	for i, l := range more {
		v.missed[i] = sum(v.missed[i], l)
	}
	_, v.err = v.Feed(v.missed[0], v.missed[1])
	if v.err == api.OK {
		v.missed = sets{}
	}
}

// tell: what the query tells of the tables, with its error.
func (v *view) tell() ([]api.Item, api.Errno) {
	if v.err != api.OK {
		return nil, v.err
	}
	return v.All(), api.OK
}

// setsOf tables: these are a node's, which have no error.
func setsOf(tables [api.Tables]api.Table) sets {
	var l sets
	for i, t := range tables {
		l[i], _ = zset.Of(t)
	}
	return l
}

// difference: what is to be added to before to have now.
func difference(now, before sets) sets {
	var l sets
	for i := range now {
		turned, _ := zset.Neg(before[i])
		l[i] = sum(now[i], turned)
	}
	return l
}

// sum: both together. What comes out is a table's set, or the difference of two of these: at most 100
// rows, each once or once fewer, so that Add has no error.
func sum(a, b []api.Item) []api.Item {
	l, _ := zset.Add(a, b)
	return l
}
