package eval_test

import (
	"cmp"
	"fmt"
	"maps"
	"math/big"
	"regexp"
	"slices"
	"strings"

	"wicketgate/api"
)

// nodes is short for what every call here is about.
type nodes = []api.Node

// expr is an expression as a tree; a field is one too, with its part.
type expr struct {
	head  api.Node
	parts []expr
}

// list tells the nodes of an expression.
func (x expr) list() nodes {
	l := nodes{x.head}
	for _, part := range x.parts {
		l = append(l, part.list()...)
	}
	return l
}

// Short forms of expressions.

func of(op int, parts ...expr) expr             { return expr{api.Node{Op: op}, parts} }
func with(op int, s string, parts ...expr) expr { return expr{api.Node{Op: op, S: s}, parts} }
func truth(n int) expr                          { return expr{head: api.Node{Op: api.Bool, N: n}} }
func num(n int) expr                            { return expr{head: api.Node{Op: api.Num, N: n}} }
func text(s string) expr                        { return with(api.Text, s) }
func ent(s, t string) expr                      { return expr{head: api.Node{Op: api.Ent, S: s, T: t}} }
func named(s string) expr                       { return with(api.Var, s) }
func field(s string, part expr) expr            { return with(api.Field, s, part) }
func set(parts ...expr) expr                    { return expr{api.Node{Op: api.Set, N: len(parts)}, parts} }
func rec(fields ...expr) expr                   { return expr{api.Node{Op: api.Rec, N: len(fields)}, fields} }

// worth is a value as Go has it, by which the tests know what the program must
// tell: a bool, an int, a string, an api.Uid, a group or a record.
type worth any

// group has values by what they look like, so that each is there once.
type group map[string]worth

type record map[string]worth

// look tells values apart that are not the same.
func look(w worth) string {
	return fmt.Sprintf("%T%#v", w, listed(w))
}

func groupOf(ws ...worth) group {
	g := group{}
	for _, w := range ws {
		g[look(w)] = w
	}
	return g
}

// listed tells the nodes of a value.
func listed(w worth) nodes {
	switch w := w.(type) {
	case bool:
		if w {
			return nodes{{Op: api.Bool, N: 1}}
		}
		return nodes{{Op: api.Bool}}
	case int:
		return nodes{{Op: api.Num, N: w}}
	case string:
		return nodes{{Op: api.Text, S: w}}
	case api.Uid:
		return nodes{{Op: api.Ent, S: w.Type, T: w.Id}}
	case group:
		var parts []nodes
		for _, part := range w {
			parts = append(parts, listed(part))
		}
		slices.SortFunc(parts, ahead)
		return slices.Concat(append([]nodes{{{Op: api.Set, N: len(w)}}}, parts...)...)
	case record:
		l := nodes{{Op: api.Rec, N: len(w)}}
		for _, s := range slices.Sorted(maps.Keys(w)) {
			l = append(append(l, api.Node{Op: api.Field, S: s}), listed(w[s])...)
		}
		return l
	}
	panic("no value")
}

// ahead is the order of values.
func ahead(a, b nodes) int {
	return slices.CompareFunc(a, b, func(m, n api.Node) int {
		return cmp.Or(cmp.Compare(m.Op, n.Op), cmp.Compare(m.N, n.N), cmp.Compare(m.S, n.S), cmp.Compare(m.T, n.T))
	})
}

// one is an entity of a world.
type one struct {
	up    []api.Uid
	attrs record
}

// world is a store and a request.
type world struct {
	order          []api.Uid
	ones           map[api.Uid]one
	who, act, what api.Uid
	context        record
}

// store tells the entities as the program has them.
func (w world) store() []api.Entity {
	var es []api.Entity
	for _, u := range w.order {
		es = append(es, api.Entity{Uid: u, Up: w.ones[u].up, Attrs: listed(w.ones[u].attrs)})
	}
	return es
}

// request tells the request as the program has it.
func (w world) request() api.Request {
	return api.Request{Who: w.who, Act: w.act, What: w.what, Context: listed(w.context)}
}

// below tells if a is b, or below it.
func (w world) below(a, b api.Uid) bool {
	return a == b || slices.ContainsFunc(w.ones[a].up, func(up api.Uid) bool { return w.below(up, b) })
}

// value tells what the chapter says of an expression.
func (w world) value(x expr) (worth, api.Errno) {
	switch x.head.Op {
	case api.And, api.Or:
		first, wrong := w.bool(x.parts[0])
		if wrong != api.OK || first == (x.head.Op == api.Or) {
			return first, wrong
		}
		return w.bool(x.parts[1])
	case api.If:
		first, wrong := w.bool(x.parts[0])
		if wrong != api.OK {
			return nil, wrong
		}
		if first {
			return w.value(x.parts[1])
		}
		return w.value(x.parts[2])
	}
	var parts []worth
	for _, part := range x.parts {
		if part.head.Op == api.Field {
			part = part.parts[0]
		}
		v, wrong := w.value(part)
		if wrong != api.OK {
			return nil, wrong
		}
		parts = append(parts, v)
	}
	switch {
	case len(parts) == 0 || x.head.Op == api.Set || x.head.Op == api.Rec:
		return w.whole(x, parts)
	case len(parts) == 1:
		return w.ofOne(x.head, parts[0])
	}
	return w.ofTwo(x.head.Op, parts[0], parts[1])
}

// bool tells a part's value, which must be a bool.
func (w world) bool(x expr) (bool, api.Errno) {
	v, wrong := w.value(x)
	if wrong != api.OK {
		return false, wrong
	}
	b, is := v.(bool)
	if !is {
		return false, api.ErrType
	}
	return b, api.OK
}

// whole tells the value of what has no parts, or as many as one likes.
func (w world) whole(x expr, parts []worth) (worth, api.Errno) {
	switch x.head.Op {
	case api.Bool:
		return x.head.N == 1, api.OK
	case api.Num:
		return x.head.N, api.OK
	case api.Text:
		return x.head.S, api.OK
	case api.Ent:
		return api.Uid{Type: x.head.S, Id: x.head.T}, api.OK
	case api.Set:
		return small(groupOf(parts...))
	case api.Rec:
		r := record{}
		for i, part := range parts {
			r[x.parts[i].head.S] = part
		}
		return small(r)
	}
	v, is := map[string]worth{"principal": w.who, "action": w.act, "resource": w.what, "context": w.context}[x.head.S]
	if !is {
		return nil, api.ErrNone
	}
	return v, api.OK
}

// small tells a value, unless it has too many nodes.
func small(v worth) (worth, api.Errno) {
	if len(listed(v)) > api.MaxNodes {
		return nil, api.ErrFull
	}
	return v, api.OK
}

// ofOne tells what a node makes of one value.
func (w world) ofOne(n api.Node, v worth) (worth, api.Errno) {
	switch v := v.(type) {
	case bool:
		if n.Op == api.Not {
			return !v, api.OK
		}
	case int:
		if n.Op == api.Neg {
			return exact(new(big.Int).Neg(big.NewInt(int64(v))))
		}
	case string:
		if n.Op == api.Like {
			return fits(n.S, v), api.OK
		}
	case api.Uid:
		e, there := w.ones[v]
		switch {
		case n.Op == api.Is:
			return v.Type == n.S, api.OK
		case n.Op == api.Get && !there:
			return nil, api.ErrLost
		case n.Op == api.Has || n.Op == api.Get:
			return e.attrs.ask(n)
		}
	case record:
		if n.Op == api.Has || n.Op == api.Get {
			return v.ask(n)
		}
	}
	return nil, api.ErrType
}

// ask tells what a Has or a Get makes of a record.
func (r record) ask(n api.Node) (worth, api.Errno) {
	v, there := r[n.S]
	switch {
	case n.Op == api.Has:
		return there, api.OK
	case !there:
		return nil, api.ErrNone
	}
	return v, api.OK
}

// ofTwo tells what a node makes of two values.
func (w world) ofTwo(op int, a, b worth) (worth, api.Errno) {
	if op == api.Eq {
		return look(a) == look(b), api.OK
	}
	switch a := a.(type) {
	case int:
		if b, is := b.(int); is {
			return ofNums(op, a, b)
		}
	case api.Uid:
		if op == api.In {
			return w.in(a, b)
		}
	case group:
		t, is := b.(group)
		if op == api.One {
			t, is = groupOf(b), true
		}
		if is && (op == api.One || op == api.All || op == api.Any) {
			both := 0
			for s := range t {
				if _, has := a[s]; has {
					both++
				}
			}
			return both > 0 && op == api.Any || both == len(t) && op != api.Any, api.OK
		}
	}
	return nil, api.ErrType
}

// in tells if an entity is below another one, or one of a group of entities.
func (w world) in(a api.Uid, b worth) (worth, api.Errno) {
	others, is := b.(group)
	if !is {
		others = groupOf(b)
	}
	answer := false
	for _, other := range others {
		u, is := other.(api.Uid)
		if !is {
			return nil, api.ErrType
		}
		answer = answer || w.below(a, u)
	}
	return answer, api.OK
}

// ofNums tells what a node makes of two numbers.
func ofNums(op, a, b int) (worth, api.Errno) {
	x, y, z := big.NewInt(int64(a)), big.NewInt(int64(b)), new(big.Int)
	switch op {
	case api.Lt:
		return x.Cmp(y) < 0, api.OK
	case api.Le:
		return x.Cmp(y) <= 0, api.OK
	case api.Add:
		return exact(z.Add(x, y))
	case api.Sub:
		return exact(z.Sub(x, y))
	case api.Mul:
		return exact(z.Mul(x, y))
	}
	return nil, api.ErrType
}

// exact tells a number, if it is one of 64 bits.
func exact(n *big.Int) (worth, api.Errno) {
	if !n.IsInt64() {
		return nil, api.ErrOver
	}
	return int(n.Int64()), api.OK
}

// fits tells if a text is what a pattern stands for.
func fits(pattern, s string) bool {
	var b strings.Builder
	for rest := pattern; rest != ""; {
		switch {
		case strings.HasPrefix(rest, `\*`):
			b.WriteString(`\*`)
			rest = rest[1:]
		case rest[0] == '*':
			b.WriteString(`.*`)
		default:
			b.WriteString(regexp.QuoteMeta(rest[:1]))
		}
		rest = rest[1:]
	}
	return regexp.MustCompile(`^` + b.String() + `$`).MatchString(s)
}
