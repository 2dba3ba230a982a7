package check_test

import (
	"math"
	"math/rand/v2"
	"slices"
	"testing"

	"wicketgate/api"
	"wicketgate/check"
	"wicketgate/eval"
	"wicketgate/kinds"
	"wicketgate/plain"
	"wicketgate/schema"
	"wicketgate/val"
)

// maker makes schemas, worlds and expressions by chance.
type maker struct{ *rand.Rand }

func newMaker(seed uint64) maker { return maker{rand.New(rand.NewPCG(14, seed))} }

func pick[T any](m maker, list []T) T { return list[m.IntN(len(list))] }

// kind makes a type, at most so deep.
func (m maker) kind(deep int) nodes {
	switch n := m.IntN(12); {
	case deep > 0 && n < 3:
		return ofSet(m.kind(deep - 1))
	case deep > 0 && n < 6:
		return m.recKind(deep)
	case n == 6:
		return pick(m, []nodes{kAny, kNone})
	}
	return pick(m, []nodes{kBool, kNum, kNum, kText, ofEnt("A"), ofEnt("A"), ofEnt("B"), ofEnt("C")})
}

func (m maker) recKind(deep int) nodes {
	var fields []nodes
	for _, s := range []string{"a", "b", "c", "d"} {
		switch m.IntN(5) {
		case 0, 1:
			fields = append(fields, must(s, m.kind(deep-1)))
		case 2, 3:
			fields = append(fields, maybe(s, m.kind(deep-1)))
		}
	}
	return ofRec(fields...)
}

// schema makes one whose first act is that of all requests here.
func (m maker) schema() api.Schema {
	return api.Schema{
		Kinds: []api.Kind{{Name: "A", Up: []string{"A", "B"}, Attrs: m.recKind(3)}, {Name: "B", Up: []string{"B"}, Attrs: m.recKind(3)}},
		Acts:  []api.Act{{Id: "do", Who: []string{"A", "C"}, What: []string{"A", "B"}, Context: m.recKind(3)}},
	}
}

// value makes one of a type, if there is any.
func (m maker) value(t *testing.T, kind nodes) (nodes, bool) {
	t.Helper()
	switch kind[0].Op {
	case api.KBool:
		return nodes{{Op: api.Bool, N: m.IntN(2)}}, true
	case api.KNum:
		return nodes{{Op: api.Num, N: pick(m, []int{0, 1, 2, -1, math.MaxInt})}}, true
	case api.KText:
		return nodes{{Op: api.Text, S: pick(m, []string{"", "a", "ab"})}}, true
	case api.KEnt:
		return nodes{{Op: api.Ent, S: kind[0].S, T: pick(m, []string{"a", "b", "c"})}}, true
	case api.KAny:
		return m.value(t, pick(m, []nodes{kBool, kNum, kText, ofEnt("A"), ofSet(kNum), ofRec(must("a", kNum))}))
	case api.KSet:
		var parts []nodes
		for range m.IntN(4) {
			if part, is := m.value(t, kind[1:]); is {
				parts = append(parts, part)
			}
		}
		v, err := val.SetOf(parts)
		wantTold(t, "SetOf", nil, err, nil, api.OK)
		return v, true
	case api.KRec:
		return m.rec(t, kind)
	}
	return nil, false
}

func (m maker) rec(t *testing.T, kind nodes) (nodes, bool) {
	t.Helper()
	var names []string
	var values []nodes
	needs, parts := fieldsIn(kind)
	for _, s := range []string{"a", "b", "c", "d"} {
		part, found := parts[s]
		if !found || !needs[s] && m.IntN(2) == 0 {
			continue
		}
		v, is := m.value(t, part)
		if is {
			names, values = append(names, s), append(values, v)
		} else if needs[s] {
			return nil, false
		}
	}
	v, err := val.RecOf(names, values)
	wantTold(t, "RecOf", nil, err, nil, api.OK)
	return v, true
}

// world is a store and a request.
type world struct {
	es []api.Entity
	q  api.Request
}

// world makes one as the schema has it, if there is any.
func (m maker) world(t *testing.T, s api.Schema, who, what string) (world, bool) {
	t.Helper()
	var w world
	for _, id := range []string{"a", "b", "c"} {
		for _, k := range s.Kinds {
			attrs, is := m.value(t, k.Attrs)
			if !is || m.IntN(6) == 0 {
				continue
			}
			e := api.Entity{Uid: api.Uid{Type: k.Name, Id: id}, Attrs: attrs}
			if m.IntN(2) == 0 {
				e.Up = []api.Uid{{Type: "B", Id: id + "x"}}
			}
			w.es = append(w.es, e)
		}
	}
	context, is := m.value(t, s.Acts[0].Context)
	if !is {
		return w, false
	}
	w.q = api.Request{Who: api.Uid{Type: who, Id: pick(m, []string{"a", "b"})}, Act: api.Uid{Type: "Action", Id: "do"}, What: api.Uid{Type: what, Id: pick(m, []string{"a", "b"})}, Context: context}
	wantTold(t, "Store", nil, schema.Store(s, w.es), nil, api.OK)
	wantTold(t, "Asks", nil, schema.Asks(s, w.q), nil, api.OK)
	return w, true
}

// worlds makes some as the schema has them, if there are any.
func (m maker) worlds(t *testing.T, s api.Schema, who, what string) []world {
	t.Helper()
	var all []world
	for range 4 {
		if w, is := m.world(t, s, who, what); is {
			all = append(all, w)
		}
	}
	return all
}

// path is an expression of Gets alone, its type, and what has to be true for
// it to have a value.
type path struct {
	e, kind nodes
	guards  []nodes
}

// paths tells all that begin with a path, at most so long.
func paths(s api.Schema, p path, most int) []path {
	all, rec := []path{p}, p.kind
	for _, k := range s.Kinds {
		if rec[0].Op == api.KEnt && rec[0].S == k.Name {
			rec = k.Attrs
		}
	}
	if most == 0 || rec[0].Op != api.KRec {
		return all
	}
	needs, parts := fieldsIn(rec)
	for _, s1 := range []string{"a", "b", "c", "d"} {
		part, found := parts[s1]
		if !found {
			continue
		}
		next := path{append(nodes{{Op: api.Get, S: s1}}, p.e...), part, slices.Clone(p.guards)}
		if !needs[s1] {
			next.guards = append(next.guards, append(nodes{{Op: api.Has, S: s1}}, p.e...))
		}
		all = append(all, paths(s, next, most-1)...)
	}
	return all
}

// writer makes expressions that most often have a type.
type writer struct {
	maker
	paths []path
}

// Kinds of what is wished for, by what types are.
func wishes() []int {
	return []int{api.KBool, api.KNum, api.KText, api.KEnt, api.KSet, api.KRec}
}

// of makes a node with parts of these kinds.
func (w writer) of(head api.Node, deep int, wishes ...int) nodes {
	e := nodes{head}
	for _, wish := range wishes {
		e = append(e, w.expr(wish, deep)...)
	}
	return e
}

// expr makes an expression, at most so deep.
func (w writer) expr(wish, deep int) nodes {
	if w.IntN(20) == 0 {
		wish = pick(w.maker, wishes())
	}
	if deep == 0 || w.IntN(4) == 0 {
		return w.leaf(wish)
	}
	deep--
	if w.IntN(8) == 0 {
		return w.of(api.Node{Op: api.If}, deep, api.KBool, wish, wish)
	}
	if p := pick(w.maker, w.paths); len(p.guards) > 0 && w.IntN(3) == 0 {
		return w.guarded(p, wish, deep)
	}
	switch wish {
	case api.KBool:
		return w.truth(deep)
	case api.KNum:
		return w.of(api.Node{Op: pick(w.maker, []int{api.Add, api.Sub, api.Mul})}, deep, wish, wish)
	case api.KSet:
		each := pick(w.maker, wishes())
		return w.of(api.Node{Op: api.Set, N: 2}, deep, each, each)
	case api.KRec:
		return slices.Concat(nodes{{Op: api.Rec, N: 2}, {Op: api.Field, S: "a"}}, w.expr(pick(w.maker, wishes()), deep), nodes{{Op: api.Field, S: "b"}}, w.expr(pick(w.maker, wishes()), deep))
	}
	return w.leaf(wish)
}

// guarded makes an expression that asks what has to be true for a path ahead
// of using it, or others.
func (w writer) guarded(p path, wish, deep int) nodes {
	first := p.guards[0]
	for _, g := range p.guards[1:] {
		first = slices.Concat(nodes{{Op: api.And}}, first, g)
	}
	only := w
	only.paths = []path{{e: p.e, kind: p.kind}, pick(w.maker, w.paths)}
	if wish == api.KBool && w.IntN(2) == 0 {
		return slices.Concat(nodes{{Op: pick(w.maker, []int{api.And, api.And, api.And, api.Or})}}, first, only.expr(wish, deep))
	}
	return slices.Concat(nodes{{Op: api.If}}, first, only.expr(wish, deep), w.expr(wish, deep))
}

// truth makes an expression that is true or false.
func (w writer) truth(deep int) nodes {
	thing := pick(w.maker, []int{api.KEnt, api.KRec})
	switch w.IntN(9) {
	case 0:
		return w.of(api.Node{Op: api.Not}, deep, api.KBool)
	case 1, 2:
		return w.of(api.Node{Op: pick(w.maker, []int{api.And, api.Or})}, deep, api.KBool, api.KBool)
	case 3:
		return w.of(api.Node{Op: api.Eq}, deep, pick(w.maker, wishes()), pick(w.maker, wishes()))
	case 4:
		return w.of(api.Node{Op: pick(w.maker, []int{api.Lt, api.Le})}, deep, api.KNum, api.KNum)
	case 5:
		return w.of(api.Node{Op: api.In}, deep, api.KEnt, pick(w.maker, []int{api.KEnt, api.KEnt, api.KSet}))
	case 6:
		return w.of(api.Node{Op: api.Has, S: pick(w.maker, []string{"a", "b", "c"})}, deep, thing)
	case 7:
		return pick(w.maker, []nodes{w.of(api.Node{Op: api.Is, S: "A"}, deep, api.KEnt), w.of(api.Node{Op: api.Like, S: "a*"}, deep, api.KText)})
	}
	return w.of(api.Node{Op: pick(w.maker, []int{api.One, api.All, api.Any})}, deep, api.KSet, api.KSet)
}

// leaf makes an expression that asks for little: most often a path, whether or
// not it is sure to be there, or what a Get makes of one.
func (w writer) leaf(wish int) nodes {
	if w.IntN(4) > 0 {
		for range 20 {
			if p := pick(w.maker, w.paths); p.kind[0].Op == wish && (len(p.guards) == 0 || w.IntN(8) == 0) {
				return p.e
			}
		}
	}
	switch wish {
	case api.KBool:
		return nodes{{Op: api.Bool, N: w.IntN(2)}}
	case api.KNum:
		return nodes{{Op: api.Num, N: w.IntN(3)}}
	case api.KText:
		return nodes{{Op: api.Text, S: "ab"}}
	case api.KEnt:
		return pick(w.maker, []nodes{{{Op: api.Ent, S: "A", T: "a"}}, {{Op: api.Var, S: "principal"}}, {{Op: api.Var, S: "resource"}}, {{Op: api.Var, S: "action"}}})
	case api.KSet:
		return nodes{{Op: api.Set}}
	}
	return nodes{{Op: api.Rec, N: 1}, {Op: api.Field, S: "a"}, {Op: api.Num}}
}

// needsKnown tells if an expression has a type for what is known in it alone:
// with each Has that may say so exchanged for one of another name, it has none.
func needsKnown(s api.Schema, who, what string, e nodes) bool {
	e = slices.Clone(e)
	for i := range e {
		if e[i].Op == api.Has {
			e[i].S = "none"
		}
	}
	_, err := check.Type(s, who, "do", what, e)
	return plain.Told(err) == api.ErrNone
}

// CH1 to CH4: what has a type has a value of that type, in whatever store and
// of whatever request may be; but for entities that are not in the store, and
// numbers, sets and records that cannot be. And Type tells what the chapter
// says of it.
func TestTypesAreTrue(t *testing.T) {
	m := newMaker(1)
	asked, well, known, values, lost := 0, 0, 0, 0, 0
	for range 500 {
		s, who, what := m.schema(), pick(m, []string{"A", "A", "C"}), pick(m, []string{"A", "B"})
		w := writer{m, slices.Concat(
			paths(s, path{e: nodes{{Op: api.Var, S: "context"}}, kind: s.Acts[0].Context}, 3),
			paths(s, path{e: nodes{{Op: api.Var, S: "principal"}}, kind: ofEnt(who)}, 3),
			paths(s, path{e: nodes{{Op: api.Var, S: "resource"}}, kind: ofEnt(what)}, 3))}
		worlds := m.worlds(t, s, who, what)
		for range 30 {
			e := w.expr(pick(m, wishes()), 1+m.IntN(4))
			if len(e) > api.MaxNodes {
				continue
			}
			asked++
			kind, is := wantChapter(t, s, who, what, e)
			if !is {
				continue
			}
			well++
			if needsKnown(s, who, what, e) {
				known++
			}
			for _, some := range worlds {
				v, err := eval.Value(some.es, some.q, e)
				if told := plain.Told(err); told == api.ErrLost || told == api.ErrOver || told == api.ErrFull {
					lost++
					continue
				}
				if has, wrong := kinds.Has(kind, v); err != nil || wrong != nil || !has {
					t.Fatalf("%s in %s has the type %s, and the value %s and %v in %s", shown(e), shown(s), shown(kind), shown(v), err, shown(some))
				}
				values++
			}
		}
	}
	if asked < 10000 || well < asked/2 || well > asked*9/10 || known < 1000 || values < 2*well || lost > values/4 {
		t.Errorf("%d asked, %d with a type, %d of them for what is known, %d values, %d lost", asked, well, known, values, lost)
	}
}

// CH2: a value, as an expression, has the type that it has of its own.
func TestTypesOfValues(t *testing.T) {
	m := newMaker(2)
	for range 3000 {
		v, is := m.value(t, m.kind(4))
		if !is {
			continue
		}
		want, err := kinds.Own(v)
		if err != nil {
			continue
		}
		got, err := check.Type(house(), "User", "see", "Doc", v)
		wantTold(t, shown(v), got, err, want, api.OK)
	}
}

// P1, P3: whatever nodes are handed in, the call ends, and tells what the
// chapter says, or what Check of chapter 7 tells.
func TestTypesOfAnything(t *testing.T) {
	m := newMaker(3)
	well := 0
	for range 50000 {
		var e nodes
		for range m.IntN(8) {
			e = append(e, api.Node{Op: m.IntN(29), N: pick(m, []int{0, 0, 0, 1, 2}), S: pick(m, []string{"", "", "n", "m", "principal", "context"})})
		}
		_, err := check.Type(house(), "User", "see", "Doc", e)
		if plain.Told(err) == api.ErrSyntax {
			continue
		}
		wantChapter(t, house(), "User", "Doc", e)
		well++
	}
	if well < 500 {
		t.Errorf("just %d were expressions", well)
	}
}
