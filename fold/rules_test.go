package fold_test

import (
	"math"
	"math/rand/v2"
	"slices"
	"testing"

	"wicketgate/api"
	"wicketgate/eval"
	"wicketgate/fold"
	"wicketgate/plain"
	"wicketgate/tree"
	"wicketgate/val"
)

// world is a store and a request.
type world struct {
	es []api.Entity
	q  api.Request
}

// holds fails unless Better tells what both promises say of an expression, in
// these worlds. It tells if Better told another expression.
func holds(t *testing.T, worlds []world, e nodes) bool {
	t.Helper()
	got, err := fold.Better(e)
	if err != nil {
		t.Fatalf("Better of %s: %v", shown(e), err)
	}
	if err := tree.Check(got); err != nil {
		t.Fatalf("Better of %s: %s is none: %v", shown(e), shown(got), err)
	}
	if len(got) > len(e) {
		t.Fatalf("Better of %s: %s has more nodes", shown(e), shown(got))
	}
	if again, err := fold.Better(got); err != nil || !slices.Equal(again, got) {
		t.Fatalf("Better of %s: %s, and of that %s and %v", shown(e), shown(got), shown(again), err)
	}
	for at := range got {
		if rule := needless(t, got, at); rule != "" {
			t.Fatalf("Better of %s: in %s is %s at %d", shown(e), shown(got), rule, at)
		}
	}
	for _, w := range worlds {
		want, wrong := eval.Value(w.es, w.q, e)
		v, err := eval.Value(w.es, w.q, got)
		if plain.Told(err) != plain.Told(wrong) || !slices.Equal(v, want) {
			t.Fatalf("Better of %s: %s, whose value is %s and %v, and not %s and %v", shown(e), shown(got), shown(v), err, shown(want), wrong)
		}
	}
	return !slices.Equal(got, e)
}

// partsAt tells the parts of the node at a place of an expression.
func partsAt(t *testing.T, e nodes, at int) []nodes {
	t.Helper()
	end, err := tree.End(e, at)
	if err != nil {
		t.Fatalf("End of %s at %d: %v", shown(e), at, err)
	}
	var parts []nodes
	for from := at + 1; from < end; {
		if e[from].Op == api.Field {
			from++
		}
		to, err := tree.End(e, from)
		if err != nil {
			t.Fatalf("End of %s at %d: %v", shown(e), from, err)
		}
		parts = append(parts, e[from:to])
		from = to
	}
	return parts
}

// ofTruth tells if the node that an expression begins with is of truth.
func ofTruth(e nodes) bool {
	return e[0].Op == api.Bool || e[0].Op == api.Not || e[0].Op == api.And || e[0].Op == api.Or || e[0].Op >= api.Eq && e[0].Op <= api.Le || e[0].Op == api.In || e[0].Op == api.Has || e[0].Op >= api.Like && e[0].Op <= api.Any
}

// needless tells what stands at a place that the chapter rules out, if such a
// thing does.
func needless(t *testing.T, e nodes, at int) string {
	t.Helper()
	yes, no := api.Node{Op: api.Bool, N: 1}, api.Node{Op: api.Bool}
	if e[at].Op == api.Field || e[at].Op == api.Var {
		return ""
	}
	parts := partsAt(t, e, at)
	switch e[at].Op {
	case api.And, api.Or:
		idle := yes
		if e[at].Op == api.Or {
			idle = no
		}
		if parts[0][0].Op == api.Bool && (parts[0][0] != idle || ofTruth(parts[1])) {
			return "And or Or with a Bool first"
		}
		if parts[1][0] == idle && ofTruth(parts[0]) {
			return "And or Or with a Bool second"
		}
	case api.If:
		if parts[0][0].Op == api.Bool {
			return "If of a Bool"
		}
	case api.Not:
		if parts[0][0].Op == api.Not && ofTruth(parts[0][1:]) {
			return "Not of Not"
		}
	}
	end, _ := tree.End(e, at)
	whole := e[at:end]
	if val.Check(whole) == nil {
		return ""
	}
	for _, part := range parts {
		if val.Check(part) != nil || slices.ContainsFunc(part, func(n api.Node) bool { return n.Op == api.Ent }) {
			return ""
		}
	}
	a := api.Uid{Type: "T", Id: "t"}
	if _, err := eval.Value(nil, api.Request{Who: a, Act: a, What: a, Context: nodes{{Op: api.Rec}}}, whole); err == nil {
		return "what has a value"
	}
	return ""
}

// The rules that the tests hold Better to find what is ruled out.
func TestNeedless(t *testing.T) {
	for _, line := range []string{
		"true && false", "false && a", "true && !a", "!a && true", "true || a", "false || !a", "(a == b) || false", "if true then a else b", "if false then a else b", "!!true", "!!!a", "!!(a in b)",
		"!true", "-(1)", "1 + 1", "1 < 1", "1 <= 1", "1 == 1", `"a" like "a"`, "{a: 1}.a", "{} has a", "[].contains(1)", "[].containsAll([])", "[].containsAny([])", "[2, 1]", "[1, 1]",
	} {
		if needless(t, parsed(t, line), 0) == "" {
			t.Errorf("%s: nothing is found", line)
		}
	}
}

// maker makes values, worlds and expressions by chance.
type maker struct{ *rand.Rand }

func newMaker(seed uint64) maker { return maker{rand.New(rand.NewPCG(11, seed))} }

func pick[T any](m maker, list []T) T { return list[m.IntN(len(list))] }

func (m maker) uid() api.Uid {
	return api.Uid{Type: pick(m, []string{"A", "B"}), Id: pick(m, []string{"a", "b", "c"})}
}

func (m maker) field() string { return pick(m, []string{"a", "b", "c"}) }

// plainLeaf makes a node that is a value, and no entity.
func (m maker) plainLeaf() api.Node {
	switch m.IntN(3) {
	case 0:
		return api.Node{Op: api.Bool, N: m.IntN(2)}
	case 1:
		return api.Node{Op: api.Num, N: pick(m, []int{0, 1, 2, -1, math.MaxInt, math.MinInt})}
	}
	return api.Node{Op: api.Text, S: pick(m, []string{"", "a", "ab", "*"})}
}

func (m maker) ent() api.Node {
	u := m.uid()
	return api.Node{Op: api.Ent, S: u.Type, T: u.Id}
}

// value makes one, at most so deep.
func (m maker) value(t *testing.T, deep int) nodes {
	if deep == 0 || m.IntN(3) > 0 {
		if m.IntN(3) == 0 {
			return nodes{m.ent()}
		}
		return nodes{m.plainLeaf()}
	}
	if m.IntN(2) == 0 {
		return m.rec(t, deep)
	}
	var parts []nodes
	for range m.IntN(4) {
		parts = append(parts, m.value(t, deep-1))
	}
	v, err := val.SetOf(parts)
	if err != nil {
		t.Fatal(err)
	}
	return v
}

func (m maker) rec(t *testing.T, deep int) nodes {
	var names []string
	var parts []nodes
	for _, s := range []string{"a", "b", "c"} {
		if m.IntN(3) > 0 {
			names, parts = append(names, s), append(parts, m.value(t, deep-1))
		}
	}
	v, err := val.RecOf(names, parts)
	if err != nil {
		t.Fatal(err)
	}
	return v
}

// worlds makes some, in which those above one stand behind it in a row.
func (m maker) worlds(t *testing.T, count int) []world {
	var ws []world
	for range count {
		w := world{q: api.Request{Who: m.uid(), Act: m.uid(), What: m.uid(), Context: m.rec(t, 3)}}
		var row []api.Uid
		for range 6 {
			if u := m.uid(); !slices.Contains(row, u) {
				row = append(row, u)
			}
		}
		for i, u := range row {
			var up []api.Uid
			for _, other := range row[i+1:] {
				if m.IntN(2) == 0 {
					up = append(up, other)
				}
			}
			if m.IntN(4) > 0 {
				w.es = append(w.es, api.Entity{Uid: u, Up: up, Attrs: m.rec(t, 3)})
			}
		}
		ws = append(ws, w)
	}
	return ws
}

// Kinds of what is wished for.
const (
	aBool = iota
	aNum
	aText
	anEnt
	aSet
	aRec
	some
)

// expr makes an expression, at most so deep, which most often has a value of
// the kind that is wished for, and of which much is known ahead.
func (m maker) expr(wish, deep int) nodes {
	if wish == some || m.IntN(12) == 0 {
		wish = m.IntN(some)
	}
	if deep == 0 || m.IntN(8) == 0 {
		return m.leaf(wish)
	}
	deep--
	switch m.IntN(12) {
	case 0:
		return m.of(api.Node{Op: api.If}, deep, aBool, wish, wish)
	case 1:
		return m.of(api.Node{Op: api.Get, S: m.field()}, deep, pick(m, []int{anEnt, aRec, aRec}))
	}
	switch wish {
	case aBool:
		return m.ofTruth(deep)
	case aNum:
		if m.IntN(4) == 0 {
			return m.of(api.Node{Op: api.Neg}, deep, aNum)
		}
		return m.of(api.Node{Op: pick(m, []int{api.Add, api.Sub, api.Mul})}, deep, aNum, aNum)
	case aSet:
		kind := pick(m, []int{anEnt, aNum, some})
		return m.of(api.Node{Op: api.Set}, deep, slices.Repeat([]int{kind}, m.IntN(4))...)
	case aRec:
		e := nodes{{Op: api.Rec}}
		for _, s := range []string{"a", "b", "c"} {
			if m.IntN(3) > 0 {
				e[0].N++
				e = append(append(e, api.Node{Op: api.Field, S: s}), m.expr(some, deep)...)
			}
		}
		return e
	}
	return m.leaf(wish)
}

// of makes a node with parts of these kinds.
func (m maker) of(head api.Node, deep int, kinds ...int) nodes {
	if head.Op == api.Set {
		head.N = len(kinds)
	}
	e := nodes{head}
	for _, kind := range kinds {
		e = append(e, m.expr(kind, deep)...)
	}
	return e
}

// ofTruth makes an expression that is true or false.
func (m maker) ofTruth(deep int) nodes {
	switch m.IntN(12) {
	case 0, 1, 2:
		return m.of(api.Node{Op: api.Not}, deep, aBool)
	case 3, 4, 5:
		return m.of(api.Node{Op: pick(m, []int{api.And, api.Or})}, deep, aBool, aBool)
	case 6:
		kind := m.IntN(some)
		return m.of(api.Node{Op: api.Eq}, deep, kind, kind)
	case 7:
		return m.of(api.Node{Op: pick(m, []int{api.Lt, api.Le})}, deep, aNum, aNum)
	case 8:
		return m.of(api.Node{Op: api.In}, deep, anEnt, pick(m, []int{anEnt, aSet}))
	case 9:
		return m.of(api.Node{Op: api.Has, S: m.field()}, deep, pick(m, []int{anEnt, aRec}))
	case 10:
		if m.IntN(2) == 0 {
			return m.of(api.Node{Op: api.Is, S: pick(m, []string{"A", "B"})}, deep, anEnt)
		}
		return m.of(api.Node{Op: api.Like, S: pick(m, []string{"*", "a*", `\*`, ""})}, deep, aText)
	}
	if m.IntN(2) == 0 {
		return m.of(api.Node{Op: api.One}, deep, aSet, some)
	}
	return m.of(api.Node{Op: pick(m, []int{api.All, api.Any})}, deep, aSet, aSet)
}

// leaf makes an expression of that kind that asks for little.
func (m maker) leaf(wish int) nodes {
	if m.IntN(30) == 0 {
		return nodes{{Op: api.Var, S: pick(m, []string{"x", "?principal"})}}
	}
	switch wish {
	case anEnt:
		if m.IntN(2) == 0 {
			return nodes{m.ent()}
		}
		return nodes{{Op: api.Var, S: pick(m, []string{"principal", "action", "resource"})}}
	case aSet:
		e := nodes{{Op: api.Set, N: m.IntN(4)}}
		for range e[0].N {
			e = append(e, m.plainLeaf())
		}
		return e
	case aRec:
		if m.IntN(2) == 0 {
			return nodes{{Op: api.Var, S: "context"}}
		}
		return nodes{{Op: api.Rec, N: 2}, {Op: api.Field, S: "a"}, m.plainLeaf(), {Op: api.Field, S: "b"}, m.plainLeaf()}
	case aBool:
		if m.IntN(4) == 0 {
			return nodes{{Op: api.Get, S: m.field()}, {Op: api.Var, S: "context"}}
		}
	}
	for {
		if n := m.plainLeaf(); n.Op == api.Bool+wish {
			return nodes{n}
		}
	}
}

// FB1, FB2: all nodes with some of all kinds as parts, in all orders.
func TestBetterOfAllSmallOnes(t *testing.T) {
	worlds := newMaker(1).worlds(t, 3)
	var leaves []nodes
	for _, line := range []string{"true", "false", "0", "1", "-9223372036854775808", `"a"`, `A::"a"`, "[]", "[1]", "[2, 1]", `[A::"a"]`, `[A::"b", A::"a"]`, "{}", "{a: true}", `{a: A::"a"}`, "{a: x}", "principal", "context", "x", "context.a", "!x", "!context.a", "principal == resource", "context has a", "1 + true", "true && x", "x || false", "if x then true else false", "!!x"} {
		leaves = append(leaves, parsed(t, line))
	}
	var ones nodes
	for _, op := range []int{api.Not, api.Neg} {
		ones = append(ones, api.Node{Op: op})
	}
	for _, op := range []int{api.Has, api.Get, api.Like, api.Is} {
		ones = append(ones, api.Node{Op: op, S: "a"}, api.Node{Op: op, S: "A"})
	}
	twos := []int{api.And, api.Or, api.Eq, api.Lt, api.Le, api.Add, api.Sub, api.Mul, api.In, api.One, api.All, api.Any}
	for _, a := range leaves {
		holds(t, worlds, a)
		for _, n := range ones {
			one := append(nodes{n}, a...)
			holds(t, worlds, one)
			for _, m := range ones {
				holds(t, worlds, append(nodes{m}, one...))
			}
		}
		for _, b := range leaves {
			both := slices.Concat(a, b)
			for _, op := range twos {
				two := append(nodes{{Op: op}}, both...)
				holds(t, worlds, two)
				holds(t, worlds, append(nodes{{Op: api.Not}, {Op: api.Not}}, two...))
			}
			holds(t, worlds, append(nodes{{Op: api.Set, N: 2}}, both...))
			holds(t, worlds, slices.Concat(nodes{{Op: api.Rec, N: 2}, {Op: api.Field, S: "a"}}, a, nodes{{Op: api.Field, S: "b"}}, b))
			holds(t, worlds, slices.Concat(nodes{{Op: api.If}}, both, a))
			holds(t, worlds, slices.Concat(nodes{{Op: api.If}}, both, leaves[0]))
		}
	}
}

// FB1, FB2: large expressions in many worlds.
func TestBetterOfMany(t *testing.T) {
	m := newMaker(2)
	asked, better := 0, 0
	for range 500 {
		worlds := m.worlds(t, 4)
		for range 40 {
			e := m.expr(some, 1+m.IntN(6))
			if len(e) > api.MaxNodes {
				continue
			}
			asked++
			if holds(t, worlds, e) {
				better++
			}
		}
	}
	if asked < 10000 || better < asked/3 || better > asked*9/10 {
		t.Errorf("of %d just %d could be better", asked, better)
	}
}
