package eval

import (
	"errors"
	"slices"

	"wicketgate/api"
	"wicketgate/bag"
	"wicketgate/ent"
	"wicketgate/like"
	"wicketgate/num"
	"wicketgate/tree"
	"wicketgate/val"
)

// asker goes through an expression, from its first node on. The store, the
// request and the expression are such as may be.
type asker struct {
	es []api.Entity
	q  api.Request
	e  []api.Node
	at int
}

// fault is what is thrown where there is no value.
type fault struct{ err error }

// valueOf tells the value of the whole expression. An error of a part is that
// of all it is a part of, so it is thrown from there, and caught here.
func valueOf(a *asker) (v []api.Node, err error) {
	defer func() {
		switch wrong := recover().(type) {
		case nil:
		case fault:
			v, err = nil, wrong.err
		default:
			// Nobody here throws it: to catch it would hide a mistake.
			panic(wrong)
		}
	}()
	return a.value(), nil
}

// sure takes an answer apart that must be there: its error is thrown.
func sure[T any](answer T, err error) T {
	if err != nil {
		panic(fault{err})
	}
	return answer
}

// found takes an answer apart that may be missing, and tells if it is there.
// Any error but that it is missing is thrown.
func found[T any](answer T, err error) (T, bool) {
	var wrong api.Errno
	if errors.As(err, &wrong) && (wrong == api.ErrLost || wrong == api.ErrNone) {
		return answer, false
	}
	return sure(answer, err), true
}

// value tells the value of the part that is next, and goes past it. What it
// tells is fresh memory.
func (a *asker) value() []api.Node {
	n := a.e[a.at]
	a.at++
	switch n.Op {
	case api.Bool, api.Num, api.Text, api.Ent:
		return []api.Node{n}
	case api.Set:
		return a.set(n.N)
	case api.Rec:
		return a.rec(n.N)
	case api.Var:
		return a.named(n.S)
	case api.And:
		return a.unless(false)
	case api.Or:
		return a.unless(true)
	case api.If:
		return a.either()
	case api.Not, api.Neg, api.Has, api.Get, api.Like, api.Is:
		return a.ofOne(n, a.value())
	}
	first := a.value()
	second := a.value()
	return a.ofTwo(n.Op, first, second)
}

// skip goes past the part that is next, and does not ask for its value.
func (a *asker) skip() {
	a.at = sure(tree.End(a.e, a.at))
}

func (a *asker) set(count int) []api.Node {
	var parts [][]api.Node
	for range count {
		parts = append(parts, a.value())
	}
	return sure(val.SetOf(parts))
}

func (a *asker) rec(count int) []api.Node {
	var names []string
	var parts [][]api.Node
	for range count {
		names = append(names, a.e[a.at].S)
		a.at++
		parts = append(parts, a.value())
	}
	return sure(val.RecOf(names, parts))
}

// named tells what a name stands for.
func (a *asker) named(s string) []api.Node {
	switch s {
	case "principal":
		return entity(a.q.Who)
	case "action":
		return entity(a.q.Act)
	case "resource":
		return entity(a.q.What)
	case "context":
		return slices.Clone(a.q.Context)
	}
	panic(fault{api.ErrNone})
}

// unless tells if the first of two parts holds, where that is enough to know
// it of both; else if the second one does.
func (a *asker) unless(enough bool) []api.Node {
	if isTrue(a.value()) == enough {
		a.skip()
		return truth(enough)
	}
	return truth(isTrue(a.value()))
}

// either tells the value of the second or of the third of three parts, as the
// first one says.
func (a *asker) either() []api.Node {
	if !isTrue(a.value()) {
		a.skip()
		return a.value()
	}
	v := a.value()
	a.skip()
	return v
}

// ofOne tells what a node with one part makes of its value.
func (a *asker) ofOne(n api.Node, v []api.Node) []api.Node {
	switch n.Op {
	case api.Not:
		return truth(!isTrue(v))
	case api.Neg:
		return number(sure(num.Neg(numberOf(v))))
	case api.Has:
		return truth(a.has(v, n.S))
	case api.Get:
		return sure(val.Get(sure(a.record(v)), n.S))
	case api.Like:
		return truth(sure(like.Match(n.S, only(api.Text, v).S)))
	}
	return truth(uidOf(v).Type == n.S)
}

// ofTwo tells what a node with two parts makes of their values.
func (a *asker) ofTwo(op int, first, second []api.Node) []api.Node {
	switch op {
	case api.Eq:
		return truth(slices.Equal(first, second))
	case api.Lt:
		return truth(numberOf(first) < numberOf(second))
	case api.Le:
		return truth(numberOf(first) <= numberOf(second))
	case api.In:
		return truth(a.in(uidOf(first), uidsOf(second)))
	case api.One:
		return truth(sure(bag.Has(first, second)))
	case api.All:
		return truth(sure(bag.All(first, second)))
	case api.Any:
		return truth(sure(bag.Any(first, second)))
	}
	return number(sure(num.Do(op, numberOf(first), numberOf(second))))
}

// in tells if an entity is one of others, or below one. Those above it are
// asked for once, since the whole store is looked at each time.
func (a *asker) in(u api.Uid, others []api.Uid) bool {
	above := sure(ent.Above(a.es, u))
	return slices.ContainsFunc(others, func(other api.Uid) bool {
		return other == u || slices.Contains(above, other)
	})
}

// has tells if there is a name in a record, or in that of an entity.
func (a *asker) has(v []api.Node, field string) bool {
	rec, there := found(a.record(v))
	if there {
		_, there = found(val.Get(rec, field))
	}
	return there
}

// record tells a record, or that of an entity: ErrLost where this is not in
// the store.
func (a *asker) record(v []api.Node) ([]api.Node, error) {
	if v[0].Op == api.Rec {
		return v, nil
	}
	return ent.Attrs(a.es, uidOf(v))
}

// only tells the head of a value that must be of a kind.
func only(kind int, v []api.Node) api.Node {
	if v[0].Op != kind {
		panic(fault{api.ErrType})
	}
	return v[0]
}

func isTrue(v []api.Node) bool {
	return only(api.Bool, v).N == 1
}

func numberOf(v []api.Node) int {
	return only(api.Num, v).N
}

func uidOf(v []api.Node) api.Uid {
	n := only(api.Ent, v)
	return api.Uid{Type: n.S, Id: n.T}
}

// uidsOf tells the uid of an entity, or those of a set of entities. All of a
// set are looked at, wherever the one that is sought may stand.
func uidsOf(v []api.Node) []api.Uid {
	if v[0].Op != api.Set {
		return []api.Uid{uidOf(v)}
	}
	var us []api.Uid
	for _, part := range sure(val.Parts(v)) {
		us = append(us, uidOf(part))
	}
	return us
}

func truth(b bool) []api.Node {
	if b {
		return []api.Node{{Op: api.Bool, N: 1}}
	}
	return []api.Node{{Op: api.Bool}}
}

func number(n int) []api.Node {
	return []api.Node{{Op: api.Num, N: n}}
}

func entity(u api.Uid) []api.Node {
	return []api.Node{{Op: api.Ent, S: u.Type, T: u.Id}}
}
