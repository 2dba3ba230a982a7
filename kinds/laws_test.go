package kinds_test

import (
	"math/rand/v2"
	"slices"
	"testing"

	"wicketgate/api"
	"wicketgate/kinds"
	"wicketgate/plain"
	"wicketgate/val"
)

// made builds all types of at most most nodes, smaller ones first, from some
// leaves and the names a and b, never asking the program.
func made(most int, leaves ...nodes) []nodes {
	bySize := make([][]nodes, most+1)
	bySize[1] = append(slices.Clone(leaves), recOf())
	for size := 2; size <= most; size++ {
		for _, part := range bySize[size-1] {
			bySize[size] = append(bySize[size], setOf(part))
		}
		for _, s := range []string{"a", "b"} {
			for _, field := range fieldsOf(s, bySize, size-1) {
				bySize[size] = append(bySize[size], recOf(field))
			}
		}
		for left := 2; left < size-2; left++ {
			for _, a := range fieldsOf("a", bySize, left) {
				for _, b := range fieldsOf("b", bySize, size-1-left) {
					bySize[size] = append(bySize[size], recOf(a, b))
				}
			}
		}
	}
	return slices.Concat(bySize...)
}

// fieldsOf builds all fields of a name with just so many nodes.
func fieldsOf(s string, bySize [][]nodes, size int) []nodes {
	var all []nodes
	for _, part := range bySize[size-1] {
		all = append(all, fieldOf(s, 0, part), fieldOf(s, 1, part))
	}
	return all
}

// fieldsIn tells the fields of a record's type by their names: whether it must
// be, and its type.
func fieldsIn(list nodes) (must map[string]bool, parts map[string]nodes) {
	must, parts = map[string]bool{}, map[string]nodes{}
	for at := 1; at < len(list); {
		end := at + 2
		for kinds.Check(list[at+1:end]) != nil {
			end++
		}
		must[list[at].S], parts[list[at].S] = list[at].N == 1, list[at+1:end]
		at = end
	}
	return must, parts
}

// below is the document's order, written out once more, over lists.
func below(a, b nodes) bool {
	if a[0].Op == api.KNone || b[0].Op == api.KAny {
		return true
	}
	if a[0].Op == api.KSet && b[0].Op == api.KSet {
		return below(a[1:], b[1:])
	}
	if a[0].Op != api.KRec || b[0].Op != api.KRec {
		return slices.Equal(a, b)
	}
	must, parts := fieldsIn(a)
	musts, others := fieldsIn(b)
	for s, part := range parts {
		if other, found := others[s]; !found || !below(part, other) {
			return false
		}
	}
	for s := range others {
		if musts[s] && !must[s] {
			return false
		}
	}
	return true
}

func isBelow(t *testing.T, a, b nodes) bool {
	t.Helper()
	is, err := kinds.Below(a, b)
	if err != nil {
		t.Fatalf("Below of %s and %s: %v", shown(a), shown(b), err)
	}
	return is
}

func joined(t *testing.T, a, b nodes) nodes {
	t.Helper()
	join, err := kinds.Join(a, b)
	if err != nil {
		t.Fatalf("Join of %s and %s: %v", shown(a), shown(b), err)
	}
	if err := kinds.Check(join); err != nil {
		t.Fatalf("Join of %s and %s: %s is none: %v", shown(a), shown(b), shown(join), err)
	}
	return join
}

func has(t *testing.T, list, v nodes) bool {
	t.Helper()
	is, err := kinds.Has(list, v)
	if err != nil {
		t.Fatalf("Has of %s and %s: %v", shown(list), shown(v), err)
	}
	return is
}

// TY3: Below is as the chapter has it, for all small types: no two of them are
// below each other, and where one is below the other, their join is that.
func TestBelowAll(t *testing.T) {
	all := made(5, leaf(api.KNum), leaf(api.KAny), leaf(api.KNone), entOf("A"), entOf("B"))
	found := 0
	for i, a := range all {
		for j, b := range all {
			is := isBelow(t, a, b)
			if is != below(a, b) {
				t.Fatalf("Below of %s and %s: got %v", shown(a), shown(b), is)
			}
			if i == j && !is || i != j && is && isBelow(t, b, a) {
				t.Fatalf("Below of %s and %s: it is no order", shown(a), shown(b))
			}
			if is {
				found++
			}
			if join := joined(t, a, b); is != slices.Equal(join, b) {
				t.Fatalf("Join of %s and %s: got %s", shown(a), shown(b), shown(join))
			}
		}
	}
	if found < 10*len(all) {
		t.Errorf("only %d are below others", found)
	}
}

// TY3, TY4: Below is an order, and joins are the least that both are below:
// they are below just those that both are below.
func TestJoinLeast(t *testing.T) {
	all := made(4, leaf(api.KNum), leaf(api.KAny), leaf(api.KNone))
	all = append(all, made(5, leaf(api.KNum))...)
	above := map[string][]bool{}
	aboveOf := func(list nodes) []bool {
		// Many joins are the same: to ask for each once is far less.
		name := key(list)
		if _, found := above[name]; !found {
			for _, c := range all {
				above[name] = append(above[name], isBelow(t, list, c))
			}
		}
		return above[name]
	}
	for _, a := range all {
		for i, b := range all {
			join := joined(t, a, b)
			if other := joined(t, b, a); !slices.Equal(join, other) {
				t.Fatalf("Join of %s and %s: %s, and from the other side %s", shown(a), shown(b), shown(join), shown(other))
			}
			aboveA, aboveB, aboveJoin := aboveOf(a), aboveOf(b), aboveOf(join)
			for j, c := range all {
				if aboveJoin[j] != (aboveA[j] && aboveB[j]) {
					t.Fatalf("Join of %s and %s: %s, held against %s", shown(a), shown(b), shown(join), shown(c))
				}
				if aboveA[i] && aboveB[j] && !aboveA[j] {
					t.Fatalf("Below of %s, %s and %s: it is no order", shown(a), shown(b), shown(c))
				}
			}
		}
	}
}

// maker makes values and types by chance.
type maker struct{ *rand.Rand }

func newMaker(seed uint64) maker { return maker{rand.New(rand.NewPCG(12, seed))} }

// value makes one that is not deeper than so much.
func (m maker) value(t *testing.T, deep int) nodes {
	t.Helper()
	pick := m.IntN(6)
	if deep == 0 {
		pick = m.IntN(4)
	}
	switch pick {
	case 0:
		return nodes{{Op: api.Bool, N: m.IntN(2)}}
	case 1:
		return nodes{{Op: api.Num, N: m.IntN(3)}}
	case 2:
		return nodes{{Op: api.Text, S: "a"}}
	case 3:
		return nodes{{Op: api.Ent, S: string(rune('A' + m.IntN(2))), T: "a"}}
	}
	var parts []nodes
	var names []string
	for i := range 4 {
		if m.IntN(2) == 0 {
			parts = append(parts, m.value(t, m.IntN(deep)))
			names = append(names, string(rune('a'+i)))
		}
	}
	make := func() (nodes, error) { return val.RecOf(names, parts) }
	if pick == 4 {
		make = func() (nodes, error) { return val.SetOf(parts) }
	}
	v, err := make()
	if err != nil {
		t.Fatal(err)
	}
	return v
}

// kind makes a type that is not deeper than so much.
func (m maker) kind(deep int) nodes {
	pick := m.IntN(8)
	if deep == 0 {
		pick = m.IntN(6)
	}
	switch pick {
	case 0, 1, 2:
		return leaf(api.KBool + pick)
	case 3:
		return entOf(string(rune('A' + m.IntN(2))))
	case 4, 5:
		return leaf(api.KAny + pick - 4)
	case 6:
		return setOf(m.kind(m.IntN(deep)))
	}
	var fields []nodes
	for i := range 4 {
		if m.IntN(2) == 0 {
			fields = append(fields, fieldOf(string(rune('a'+i)), m.IntN(2), m.kind(m.IntN(deep))))
		}
	}
	return recOf(fields...)
}

// around makes a type by which one that a value has becomes another one, which
// it may still have, or just not.
func (m maker) around(t *testing.T, own nodes) nodes {
	t.Helper()
	if m.IntN(4) == 0 {
		return m.kind(3)
	}
	list := slices.Clone(own)
	for range m.IntN(3) {
		i := m.IntN(len(list))
		if list[i].Op == api.KField {
			list[i].N = m.IntN(2)
		} else if list[i].Op != api.KSet && list[i].Op != api.KRec {
			list[i] = m.kind(0)[0]
		}
	}
	if m.IntN(2) == 0 {
		list = joined(t, list, m.kind(2))
	}
	return list
}

// TY2 to TY5: a value has just the types that its own type is below.
func TestOwnLeast(t *testing.T) {
	var yes, not int
	for seed := range uint64(30000) {
		m := newMaker(seed)
		v := m.value(t, 3)
		own, err := kinds.Own(v)
		if err != nil || kinds.Check(own) != nil {
			t.Fatalf("Own of %s: %s and %v", shown(v), shown(own), err)
		}
		if !has(t, own, v) {
			t.Fatalf("Own of %s: %s, which it does not have", shown(v), shown(own))
		}
		for range 5 {
			list := m.around(t, own)
			is := has(t, list, v)
			if is != isBelow(t, own, list) {
				t.Fatalf("Has of %s and %s: %v, but its own is %s", shown(list), shown(v), is, shown(own))
			}
			if is && list[0].Op != api.KAny {
				yes++
			} else if !is {
				not++
			}
		}
	}
	if yes < 10000 || not < 10000 {
		t.Errorf("%d have it, %d do not: too few", yes, not)
	}
}

// TY2 to TY4: what is below another one has no value that this has not; what
// one or the other has, the join has.
func TestValuesOfJoins(t *testing.T) {
	var values []nodes
	for seed := range uint64(60) {
		values = append(values, newMaker(seed).value(t, 3))
	}
	for seed := range uint64(6000) {
		m := newMaker(1<<32 + seed)
		own, err := kinds.Own(values[m.IntN(len(values))])
		if err != nil {
			t.Fatal(err)
		}
		a, b := m.around(t, own), m.around(t, own)
		join := joined(t, a, b)
		if !isBelow(t, a, join) || !isBelow(t, b, join) || below(a, b) != isBelow(t, a, b) {
			t.Fatalf("Join of %s and %s: %s", shown(a), shown(b), shown(join))
		}
		for _, v := range values {
			if (has(t, a, v) || has(t, b, v)) && !has(t, join, v) {
				t.Fatalf("Join of %s and %s: %s, which %s does not have", shown(a), shown(b), shown(join), shown(v))
			}
			if below(a, b) && has(t, a, v) && !has(t, b, v) {
				t.Fatalf("Below of %s and %s: but not for %s", shown(a), shown(b), shown(v))
			}
		}
	}
}

// spoil writes into all of a list's memory that its owner may write into.
func spoil(list nodes) {
	list = list[:cap(list)]
	for i := range list {
		list[i] = api.Node{Op: -1, S: "spoilt"}
	}
}

// roomy is a list with room behind it, in which something stands.
func roomy(list nodes) nodes {
	return append(slices.Clone(list), nodes{{Op: api.KNum}, {Op: api.KSet}, {Op: api.Num, N: 5}}...)[:len(list)]
}

// P2, P4: nothing that is handed in is written into, nor is what stands behind
// it; what comes out shares nothing with it.
func TestMemory(t *testing.T) {
	for seed := range uint64(3000) {
		m := newMaker(seed)
		a, b, v := roomy(m.kind(2)), roomy(m.kind(2)), roomy(m.value(t, 2))
		if m.IntN(4) == 0 {
			a = roomy(leaf(api.KNone))
		}
		var before []string
		for _, list := range []nodes{a, b, v} {
			before = append(before, key(list[:cap(list)]))
		}
		join := joined(t, a, b)
		if _, err := kinds.Has(a, v); err != nil {
			t.Fatal(err)
		}
		isBelow(t, a, b)
		own, err := kinds.Own(v)
		if err != nil {
			t.Fatal(err)
		}
		joinBefore, ownBefore := key(join), key(own)
		spoil(join)
		spoil(own)
		for i, list := range []nodes{a, b, v} {
			if key(list[:cap(list)]) != before[i] {
				t.Fatalf("the list %d is now %s, was %s", i, shown(list), before[i])
			}
		}
		again, _ := kinds.Own(v)
		if key(joined(t, a, b)) != joinBefore || key(again) != ownBefore {
			t.Fatalf("another answer the second time, of %s, %s and %s", shown(a), shown(b), shown(v))
		}
	}
}

// P1: no list of nodes whatever makes a call panic, or tell what is none of
// the errors.
func TestAnyNodes(t *testing.T) {
	numbers := []int{-1 << 63, -1, 0, 1, 2, 3, 200, 1 << 62}
	texts := []string{"", "a", "b", "?", "a b", "\x00"}
	m := newMaker(99)
	for range 200000 {
		lists := make([]nodes, 2)
		for i := range lists {
			for range m.IntN(6) {
				n := api.Node{Op: m.IntN(60) - 2, S: texts[m.IntN(len(texts))]}
				if m.IntN(2) == 0 {
					n = api.Node{Op: api.KBool + m.IntN(9)}
				}
				if m.IntN(2) == 0 {
					n.N = numbers[m.IntN(len(numbers))]
				}
				lists[i] = append(lists[i], n)
			}
		}
		a, b := lists[0], lists[1]
		_, hasErr := kinds.Has(a, b)
		_, belowErr := kinds.Below(a, b)
		_, joinErr := kinds.Join(a, b)
		_, ownErr := kinds.Own(a)
		for _, err := range []error{kinds.Check(a), hasErr, belowErr, joinErr, ownErr} {
			if told := plain.Told(err); told != api.OK && told != api.ErrSyntax {
				t.Fatalf("of %s and %s: %v", shown(a), shown(b), err)
			}
		}
	}
}
