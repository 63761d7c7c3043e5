// Package dot: dots and contexts: see doc/01-dot.md.
package dot

import (
	"cmp"
	"slices"

	"viewmere/api"
)

// Check: P3.
func Check(c api.Context) api.Errno {
	for _, n := range c.Clock {
		if n < 0 || n > api.MaxSeq {
			return api.ErrArg
		}
	}
	if len(c.Cloud) > api.MaxDots {
		return api.ErrLarge
	}
	for i, d := range c.Cloud {
		if !right(d) || d.Seq <= c.Clock[d.Node]+1 {
			return api.ErrForm
		}
		if i > 0 && Order(c.Cloud[i-1], d) >= 0 {
			return api.ErrForm
		}
	}
	return api.OK
}

// Has: P3. The cloud is gone through one by one, since that of any context may be in no order.
func Has(c api.Context, d api.Dot) bool {
	if isNode(d.Node) && d.Seq >= 1 && d.Seq <= c.Clock[d.Node] {
		return true
	}
	return slices.Contains(c.Cloud, d)
}

// Make: P4.
func Make(l []api.Dot) (api.Context, api.Errno) {
	if len(l) > api.MaxDots {
		return api.Context{}, api.ErrLarge
	}
	for _, d := range l {
		if !right(d) {
			return api.Context{}, api.ErrForm
		}
	}
	return fold([api.Nodes]int{}, rising(l, nil)), api.OK
}

// Join: P4.
func Join(a, b api.Context) (api.Context, api.Errno) {
	if e := checkBoth(a, b); e != api.OK {
		return api.Context{}, e
	}
	clock := a.Clock
	for i, n := range b.Clock {
		clock[i] = max(clock[i], n)
	}
	c := fold(clock, rising(a.Cloud, b.Cloud))
	if len(c.Cloud) > api.MaxDots {
		return api.Context{}, api.ErrLarge
	}
	return c, api.OK
}

// Less: P4.
func Less(a, b api.Context) (bool, api.Errno) {
	if e := checkBoth(a, b); e != api.OK {
		return false, e
	}
	for i, n := range a.Clock {
		// A right cloud never has the dot right behind its clock, so it can't make up for a lower clock.
		if n > b.Clock[i] {
			return false, api.OK
		}
	}
	for _, d := range a.Cloud {
		if !Has(b, d) {
			return false, api.OK
		}
	}
	return true, api.OK
}

// Next: P4.
func Next(c api.Context, node int) (api.Dot, api.Errno) {
	if e := Check(c); e != api.OK {
		return api.Dot{}, e
	}
	if !isNode(node) {
		return api.Dot{}, api.ErrArg
	}
	last := c.Clock[node]
	for _, d := range c.Cloud {
		if d.Node == node {
			last = max(last, d.Seq)
		}
	}
	if last >= api.MaxSeq {
		return api.Dot{}, api.ErrLarge
	}
	return api.Dot{Node: node, Seq: last + 1}, api.OK
}

// Minus: P4.
func Minus(a, b api.Context) ([]api.Dot, api.Errno) {
	if e := checkBoth(a, b); e != api.OK {
		return nil, e
	}
	return missing(a, b)
}

// Without, which tables need beside the listed calls: Check's error; else the context that has what
// c has, but the dots of l; ErrLarge, if the Cloud would have more than 400.
func Without(c api.Context, l []api.Dot) (api.Context, api.Errno) {
	if e := Check(c); e != api.OK {
		return api.Context{}, e
	}
	clock := c.Clock
	for _, d := range l {
		if isNode(d.Node) && d.Seq >= 1 {
			clock[d.Node] = min(clock[d.Node], d.Seq-1)
		}
	}
	// What c has beyond the lower clocks, but l, is what is left for the cloud.
	cloud, e := missing(c, api.Context{Clock: clock, Cloud: l})
	if e != api.OK {
		return api.Context{}, e
	}
	return api.Context{Clock: clock, Cloud: cloud}, api.OK
}

// Order, which tables need beside the listed calls: below 0, if a comes ahead of b, above 0, if it
// comes behind it.
func Order(a, b api.Dot) int {
	if n := cmp.Compare(a.Node, b.Node); n != 0 {
		return n
	}
	return cmp.Compare(a.Seq, b.Seq)
}

// missing: the dots that a has and b hasn't, in order; ErrLarge, if there are more than 400.
func missing(a, b api.Context) ([]api.Dot, api.Errno) {
	var l []api.Dot
	for node := range api.Nodes {
		l = appendMissing(l, a, b, node)
		if len(l) > api.MaxDots {
			return nil, api.ErrLarge
		}
	}
	return l, api.OK
}

// appendMissing: l, and behind it the dots of node that a has and b hasn't, in order.
func appendMissing(l []api.Dot, a, b api.Context, node int) []api.Dot {
	// Clocks may be 2^40 apart: one dot too many is enough to know that there are too many.
	for seq := b.Clock[node] + 1; seq <= a.Clock[node] && len(l) <= api.MaxDots; seq++ {
		if d := (api.Dot{Node: node, Seq: seq}); !Has(b, d) {
			l = append(l, d)
		}
	}
	for _, d := range a.Cloud {
		if d.Node == node && !Has(b, d) {
			l = append(l, d)
		}
	}
	return l
}

// checkBoth: Check's error of a, of b.
func checkBoth(a, b api.Context) api.Errno {
	if e := Check(a); e != api.OK {
		return e
	}
	return Check(b)
}

// rising: the dots of both lists, in order, in a list of its own.
func rising(a, b []api.Dot) []api.Dot {
	l := make([]api.Dot, 0, len(a)+len(b))
	l = append(l, a...)
	l = append(l, b...)
	slices.SortFunc(l, Order)
	return l
}

// fold: the context that has what clock has, and the dots of l. These are right and in order, but
// may be there twice, or be in the clock already.
func fold(clock [api.Nodes]int, l []api.Dot) api.Context {
	c := api.Context{Clock: clock}
	for i, d := range l {
		last := c.Clock[d.Node]
		switch {
		case d.Seq <= last:
		case d.Seq == last+1:
			c.Clock[d.Node] = d.Seq
		case i == 0 || l[i-1] != d:
			c.Cloud = append(c.Cloud, d)
		}
	}
	return c
}

// right: is d a right dot?
func right(d api.Dot) bool {
	return isNode(d.Node) && d.Seq >= 1 && d.Seq <= api.MaxSeq
}

// isNode: is n a node's number?
func isNode(n int) bool {
	return n >= 0 && n < api.Nodes
}
