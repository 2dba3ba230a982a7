package kinds_test

import (
	"fmt"
	"math"
	"slices"
	"strings"
	"testing"

	"wicketgate/api"
	"wicketgate/kinds"
	"wicketgate/phrase"
	"wicketgate/plain"
	"wicketgate/word"
)

// nodes is short for what every call here is about.
type nodes = []api.Node

// shown has no more of a thing than a message can bear.
func shown(x any) string {
	s := fmt.Sprintf("%+q", fmt.Sprint(x))
	if len(s) > 300 {
		s = s[:300] + "..."
	}
	return s
}

// key tells lists apart that are not the same.
func key(list nodes) string {
	return fmt.Sprintf("%#v", list)
}

// wantError fails unless err is the error of that number.
func wantError(t *testing.T, call string, err error, want api.Errno) {
	t.Helper()
	if got := plain.Told(err); got != want {
		t.Errorf("%s: error %v, want %v", call, got, want)
	}
	if err != nil && want == api.OK {
		t.Errorf("%s: an error that is not nil, where nothing is wrong", call)
	}
}

// wantCheck fails unless Check tells that error.
func wantCheck(t *testing.T, list nodes, want api.Errno) {
	t.Helper()
	wantError(t, "Check of "+shown(list), kinds.Check(list), want)
}

// wantTruth fails unless these are the answer and the error that are wanted.
func wantTruth(t *testing.T, call string, got bool, err error, want bool, wrong api.Errno) {
	t.Helper()
	wantError(t, call, err, wrong)
	if got != want {
		t.Errorf("%s: got %v, want %v", call, got, want)
	}
}

// wantType fails unless these are the type and the error that are wanted.
func wantType(t *testing.T, call string, got nodes, err error, want nodes, wrong api.Errno) {
	t.Helper()
	wantError(t, call, err, wrong)
	if !slices.Equal(got, want) {
		t.Errorf("%s: got %s, want %s", call, shown(got), shown(want))
	}
}

// Short forms of types: they are as they are handed in, and may be none.

func leaf(op int) nodes      { return nodes{{Op: op}} }
func entOf(s string) nodes   { return nodes{{Op: api.KEnt, S: s}} }
func setOf(kind nodes) nodes { return append(leaf(api.KSet), kind...) }

func recOf(fields ...nodes) nodes {
	return append(nodes{{Op: api.KRec, N: len(fields)}}, slices.Concat(fields...)...)
}

func fieldOf(s string, must int, kind nodes) nodes {
	return append(nodes{{Op: api.KField, S: s, N: must}}, kind...)
}

// kind tells the type of a short text: Bool, Num, Text, Any, None, another
// name for the entities of that type, [..] for a set, {a: .., b?: ..} for a
// record, with ? behind what may be.
func kind(t *testing.T, text string) nodes {
	t.Helper()
	list, rest := kindIn(text)
	if rest != "" || kinds.Check(list) != nil {
		t.Fatalf("%s is no type", text)
	}
	return list
}

// kindIn tells the type that a short text begins with, and what is behind it.
func kindIn(text string) (nodes, string) {
	switch {
	case strings.HasPrefix(text, "["):
		list, rest := kindIn(text[1:])
		return setOf(list), strings.TrimPrefix(rest, "]")
	case strings.HasPrefix(text, "{"):
		rest := text[1:]
		var fields []nodes
		for !strings.HasPrefix(rest, "}") {
			s, behind, _ := strings.Cut(rest, ": ")
			list, after := kindIn(behind)
			must := 1
			if may, found := strings.CutSuffix(s, "?"); found {
				s, must = may, 0
			}
			fields = append(fields, fieldOf(s, must, list))
			rest = strings.TrimPrefix(after, ", ")
		}
		return recOf(fields...), rest[1:]
	}
	end := strings.IndexAny(text+"]", "]},")
	for i, s := range []string{"Bool", "Num", "Text"} {
		if text[:end] == s {
			return leaf(api.KBool + i), text[end:]
		}
	}
	for i, s := range []string{"Any", "None"} {
		if text[:end] == s {
			return leaf(api.KAny + i), text[end:]
		}
	}
	return entOf(text[:end]), text[end:]
}

// value tells the value of a line.
func value(t *testing.T, line string) nodes {
	t.Helper()
	ts, _, err := word.Read(line)
	if err != nil {
		t.Fatalf("Read of %q: %v", line, err)
	}
	v, _, err := phrase.Parse(ts)
	if err != nil {
		t.Fatalf("Parse of %q: %v", line, err)
	}
	return v
}

// The short forms are the nodes that they should be.
func TestShortForms(t *testing.T) {
	want := nodes{
		{Op: api.KSet}, {Op: api.KRec, N: 8},
		{Op: api.KField, S: "a", N: 1}, {Op: api.KBool}, {Op: api.KField, S: "b"}, {Op: api.KNum}, {Op: api.KField, S: "c", N: 1}, {Op: api.KText}, {Op: api.KField, S: "d"}, {Op: api.KAny},
		{Op: api.KField, S: "e", N: 1}, {Op: api.KNone}, {Op: api.KField, S: "f"}, {Op: api.KEnt, S: "A"}, {Op: api.KField, S: "g"}, {Op: api.KSet}, {Op: api.KRec}, {Op: api.KField, S: "h"}, {Op: api.KSet}, {Op: api.KSet}, {Op: api.KNum},
	}
	if got := kind(t, "[{a: Bool, b?: Num, c: Text, d?: Any, e: None, f?: A, g?: [{}], h?: [[Num]]}]"); !slices.Equal(got, want) {
		t.Errorf("got %v, want %v", got, want)
	}
}

// long is a list that has one node too many, and is no type.
func long() nodes { return make(nodes, api.MaxNodes+1) }

// deep is a leaf within so many sets.
func deep(sets int, op int) nodes {
	return append(slices.Repeat(nodes{{Op: api.KSet}}, sets), api.Node{Op: op})
}

// fields are so many, with names that rise, all of one type.
func fields(count int, letter string, must int, part nodes) []nodes {
	var all []nodes
	for i := range count {
		all = append(all, fieldOf(fmt.Sprintf("%s%03d", letter, i), must, part))
	}
	return all
}

// wide is a record's type of so many nodes, an odd number.
func wide(count int, letter string) nodes {
	return recOf(fields(count/2, letter, 1, leaf(api.KNum))...)
}

// TY1: of all short lists of some nodes just those are types that are made.
func TestCheckAllShortLists(t *testing.T) {
	const most = 5
	heads := nodes{
		{Op: api.KNum}, {Op: api.KNone}, {Op: api.KEnt, S: "A"}, {Op: api.KSet},
		{Op: api.KRec}, {Op: api.KRec, N: 1}, {Op: api.KRec, N: 2}, {Op: api.KRec, N: 3},
		{Op: api.KField, S: "a"}, {Op: api.KField, S: "a", N: 1}, {Op: api.KField, S: "b"}, {Op: api.KField, S: "b", N: 1},
	}
	types := map[string]bool{}
	for _, list := range made(most, leaf(api.KNum), leaf(api.KNone), entOf("A")) {
		types[key(list)] = true
	}
	found := 0
	var try func(list nodes)
	try = func(list nodes) {
		// To name each list is slow: only what is told to be one is named.
		if err := kinds.Check(list); err != nil {
			if plain.Told(err) != api.ErrSyntax {
				t.Errorf("Check of %s: error %v", shown(list), err)
			}
		} else if types[key(list)] {
			found++
		} else {
			t.Errorf("Check of %s: it is none", shown(list))
		}
		if len(list) == most || t.Failed() {
			return
		}
		for _, n := range heads {
			try(append(slices.Clip(list), n))
		}
	}
	try(nil)
	if found != len(types) {
		t.Errorf("%d types found, want %d", found, len(types))
	}
}

// TY1: which nodes there are, and what they have, at the head and within.
func TestCheckNodes(t *testing.T) {
	for op := -2; op < 60; op++ {
		for n := -1; n < 3; n++ {
			for _, s := range []string{"", "a", "Num", "a b", "1", "ä", strings.Repeat("a", api.MaxName), strings.Repeat("a", api.MaxName+1)} {
				for _, id := range []string{"", "a"} {
					node := api.Node{Op: op, N: n, S: s, T: id}
					isName := s == "a" || s == "Num" || len(s) == api.MaxName
					plainLeaf := op >= api.KBool && op <= api.KText || op == api.KAny || op == api.KNone
					well := id == "" && n == 0 && (plainLeaf && s == "" || op == api.KEnt && isName)
					for _, hull := range []func(nodes) nodes{
						func(list nodes) nodes { return list },
						setOf,
						func(list nodes) nodes { return recOf(fieldOf("a", 0, list)) },
						func(list nodes) nodes { return recOf(fieldOf("a", 0, leaf(api.KNum)), fieldOf("b", 1, list)) },
					} {
						want := api.ErrSyntax
						if well || node == (api.Node{Op: api.KRec}) {
							want = api.OK
						}
						wantCheck(t, hull(nodes{node}), want)
						want = api.ErrSyntax
						if node == (api.Node{Op: api.KSet}) {
							want = api.OK
						}
						wantCheck(t, hull(nodes{node, {Op: api.KNum}}), want)
						want = api.ErrSyntax
						if node == (api.Node{Op: api.KRec, N: 1}) {
							want = api.OK
						}
						wantCheck(t, hull(nodes{node, {Op: api.KField, S: "a"}, {Op: api.KNum}}), want)
						want = api.ErrSyntax
						if op == api.KField && isName && id == "" && (n == 0 || n == 1) {
							want = api.OK
						}
						wantCheck(t, hull(nodes{{Op: api.KRec, N: 1}, node, {Op: api.KNum}}), want)
					}
				}
			}
		}
	}
}

// TY1: the names of a record's type rise, byte by byte.
func TestCheckNames(t *testing.T) {
	names := []string{"A", "B", "Z", "_", "a", "a0", "a1", "aA", "aa", "ab", "b"}
	for i, a := range names {
		for j, b := range names {
			for k, c := range names {
				want := api.ErrSyntax
				if i < j && j < k {
					want = api.OK
				}
				wantCheck(t, recOf(fieldOf(a, 1, leaf(api.KNum)), fieldOf(b, 0, recOf(fieldOf("a", 1, leaf(api.KAny)))), fieldOf(c, 1, leaf(api.KNum))), want)
			}
		}
	}
}

// TY1: how many parts there are is what a node says, whatever the number.
func TestCheckCounts(t *testing.T) {
	for _, n := range []int{math.MinInt, -1, 0, 1, 2, 3, 4, 5, 6, 7, 99, 100, 199, 200, 201, 1 << 31, 1 << 32, 1<<32 + 3, math.MaxInt} {
		for count := range 6 {
			list := recOf(fields(count, "a", 1, leaf(api.KNum))...)
			list[0].N = n
			want := api.ErrSyntax
			if n == count {
				want = api.OK
			}
			wantCheck(t, list, want)
			wantCheck(t, setOf(list), want)
		}
	}
}

// TY1: a type has at most MaxNodes nodes; more are ErrFull, whatever they are.
func TestCheckFull(t *testing.T) {
	wantCheck(t, deep(api.MaxNodes-1, api.KNum), api.OK)
	wantCheck(t, deep(api.MaxNodes, api.KNum), api.ErrFull)
	wantCheck(t, deep(api.MaxNodes-1, api.KSet), api.ErrSyntax)
	wantCheck(t, wide(199, "a"), api.OK)
	wantCheck(t, setOf(wide(199, "a")), api.OK)
	wantCheck(t, wide(201, "a"), api.ErrFull)
	wantCheck(t, long(), api.ErrFull)
	wantCheck(t, make(nodes, 1<<10), api.ErrFull)
	wantCheck(t, make(nodes, api.MaxNodes), api.ErrSyntax)
	wantCheck(t, nil, api.ErrSyntax)
	wantCheck(t, nodes{}, api.ErrSyntax)
	wantCheck(t, append(leaf(api.KNum), leaf(api.KNum)...), api.ErrSyntax)
}

// TY1: what stands behind a list's length is not asked.
func TestCheckBehind(t *testing.T) {
	list := kind(t, "{a: [Num], b?: {c: A}}")
	for end := range list {
		wantCheck(t, list[:end], api.ErrSyntax)
	}
	wantCheck(t, append(slices.Clone(list), leaf(api.KNum)...)[:len(list)], api.OK)
}

// TY2: which values have which type, by hand.
func TestHas(t *testing.T) {
	for _, c := range []struct {
		kind     string
		yes, not []string
	}{
		{"Bool", []string{"true", "false"}, []string{"1", "0", `"true"`, `A::"true"`, "[]", "[true]", "{}", "{a: true}"}},
		{"Num", []string{"1", "0", "-1", "-9223372036854775808"}, []string{"true", "false", `"1"`, `A::"1"`, "[]", "[1]", "{}", "{a: 1}"}},
		{"Text", []string{`""`, `"a"`}, []string{"true", "1", `Text::"a"`, "[]", `["a"]`, "{}", `{a: "a"}`}},
		{"A", []string{`A::"a"`, `A::""`}, []string{"true", "1", `"A"`, `B::"a"`, `a::"A"`, `AA::"a"`, "[]", `[A::"a"]`, "{}", `{A: A::"a"}`}},
		{"Any", []string{"true", "1", `"a"`, `A::"a"`, "[]", "[1]", `[1, "a"]`, "{}", "{a: 1}", "{a: [{}]}"}, nil},
		{"None", nil, []string{"true", "false", "1", "0", `""`, `"a"`, `A::"a"`, "[]", "[1]", "{}", "{a: 1}"}},
		{"[Num]", []string{"[]", "[1]", "[1, 2, 3]"}, []string{"1", "[true]", "[true, 1]", `[1, "a"]`, "[1, 2, []]", "[[]]", "[[1]]", "{}", "{a: 1}"}},
		{"[Any]", []string{"[]", "[1]", `[true, 1, "a", [], {}]`}, []string{"1", "true", `"a"`, `A::"a"`, "{}", "{a: []}"}},
		{"[None]", []string{"[]"}, []string{"[1]", "[[]]", "[{}]", "{}", "1"}},
		{"[[None]]", []string{"[]", "[[]]"}, []string{"[1]", "[[1]]", "[[], [1]]", "[[[]]]", "[{}]"}},
		{"[A]", []string{"[]", `[A::"a"]`, `[A::"a", A::"b"]`}, []string{`[A::"a", B::"a"]`, `[B::"a"]`, `A::"a"`, `[1, A::"a"]`}},
		{"[{a: Num}]", []string{"[]", "[{a: 1}]", "[{a: 1}, {a: 2}]"}, []string{"[{}]", "[{}, {a: 1}]", "[{a: true}, {a: 2}]", "{a: 1}", "[{a: 1}, {a: 1, b: 1}]"}},
		{"{}", []string{"{}"}, []string{"{a: 1}", "[]", "1", "true", `""`, `A::""`}},
		{"{a: Num}", []string{"{a: 1}"}, []string{"{}", "{a: true}", "{b: 1}", "{a: 1, b: 1}", "{A: 1, a: 1}", "[1]", "1", "{aa: 1}"}},
		{"{a?: Num}", []string{"{}", "{a: 1}"}, []string{"{a: true}", "{b: 1}", "{a: 1, b: 1}", "[]", "1"}},
		{"{a: Num, b?: Text}", []string{"{a: 1}", `{a: 1, b: "a"}`}, []string{"{}", `{b: "a"}`, "{a: 1, b: 1}", `{a: "a", b: "a"}`, `{a: 1, b: "a", c: 1}`}},
		{"{a?: Num, b: Text}", []string{`{b: "a"}`, `{a: 1, b: "a"}`}, []string{"{}", "{a: 1}", `{a: true, b: "a"}`, `{b: 1}`, `{b: "a", c: 1}`}},
		{"{a: Num, b: Num}", []string{"{a: 1, b: 2}"}, []string{"{}", "{a: 1}", "{b: 1}", "{a: 1, b: true}", "{a: true, b: 1}"}},
		{"{a?: Num, b?: Num}", []string{"{}", "{a: 1}", "{b: 1}", "{a: 1, b: 2}"}, []string{"{c: 1}", "{a: 1, b: true}", "{a: true}"}},
		{"{a: Any}", []string{"{a: 1}", "{a: {}}", "{a: [true, 1]}"}, []string{"{}", "{b: 1}", "[]", "[1]"}},
		{"{a: None}", nil, []string{"{}", "{a: 1}", "{a: {}}", "{b: 1}"}},
		{"{a?: None}", []string{"{}"}, []string{"{a: 1}", "{a: {}}", "{b: 1}"}},
		{"{a: {b?: [Num]}}", []string{"{a: {}}", "{a: {b: []}}", "{a: {b: [1, 2]}}"}, []string{"{}", "{a: 1}", "{a: {b: 1}}", "{a: {b: [true]}}", "{b: []}", "{a: {a: []}}"}},
	} {
		list := kind(t, c.kind)
		for _, line := range c.yes {
			got, err := kinds.Has(list, value(t, line))
			wantTruth(t, "Has of "+c.kind+" and "+line, got, err, true, api.OK)
		}
		for _, line := range c.not {
			got, err := kinds.Has(list, value(t, line))
			wantTruth(t, "Has of "+c.kind+" and "+line, got, err, false, api.OK)
		}
	}
}

// TY3: which types are below which other ones, by hand.
func TestBelow(t *testing.T) {
	for _, c := range []struct {
		kind     string
		yes, not []string
	}{
		{"Bool", []string{"Bool", "Any"}, []string{"Num", "Text", "None", "A", "Bool_", "[Bool]", "{}"}},
		{"Num", []string{"Num", "Any"}, []string{"Bool", "Text", "None", "A", "[Num]", "{}"}},
		{"Text", []string{"Text", "Any"}, []string{"Bool", "Num", "None", "A", "[Text]", "{}"}},
		{"A", []string{"A", "Any"}, []string{"B", "a", "AA", "Bool", "Num", "Text", "None", "[A]", "{}", "{A: Num}"}},
		{"Any", []string{"Any"}, []string{"Bool", "Num", "Text", "None", "A", "[Any]", "{}", "{a: Any}"}},
		{"None", []string{"Bool", "Num", "Text", "None", "Any", "A", "[None]", "[Num]", "{}", "{a: Num}", "{a?: None}"}, nil},
		{"[Num]", []string{"[Num]", "[Any]", "Any"}, []string{"[Text]", "[None]", "[[Num]]", "Num", "None", "{}"}},
		{"[None]", []string{"[None]", "[Num]", "[[None]]", "[{a: Num}]", "[Any]", "Any"}, []string{"None", "{}", "Num"}},
		{"[Any]", []string{"[Any]", "Any"}, []string{"[Num]", "[None]", "[[Any]]", "None"}},
		{"[A]", []string{"[A]", "[Any]"}, []string{"[B]", "A"}},
		{"[[Num]]", []string{"[[Num]]", "[[Any]]", "[Any]", "Any"}, []string{"[[None]]", "[[Text]]", "[Num]", "[[[Num]]]"}},
		{"{}", []string{"{}", "{a?: Num}", "{a?: None, b?: Any}", "Any"}, []string{"{a: Num}", "{a?: Num, b: Num}", "{a: None}", "None", "[None]", "[Any]"}},
		{"{a: Num}", []string{"{a: Num}", "{a?: Num}", "{a: Any}", "{a?: Any}", "{a: Num, b?: Num}", "{A?: Num, a: Num}", "Any"}, []string{"{}", "{a: Text}", "{a?: Text}", "{a: None}", "{b: Num}", "{b?: Num}", "{a: Num, b: Num}", "{A: Num, a: Num}", "[Any]"}},
		{"{a?: Num}", []string{"{a?: Num}", "{a?: Any}", "{a?: Num, b?: Num}", "Any"}, []string{"{}", "{a: Num}", "{a: Any}", "{a?: Text}", "{b?: Num}", "{a?: Num, b: Num}"}},
		{"{a: None}", []string{"{a: None}", "{a?: None}", "{a: Num}", "{a: {b: Num}}", "Any"}, []string{"None", "{}", "{b: Num}", "{a: Num, b: Num}"}},
		{"{a?: None}", []string{"{a?: None}", "{a?: Num}"}, []string{"{}", "{a: None}"}},
		{"{a: Num, b: Text}", []string{"{a: Num, b: Text}", "{a: Num, b?: Text}", "{a?: Num, b: Text}", "{a?: Any, b?: Any}", "{a: Num, b: Text, c?: Num}"}, []string{"{a: Num}", "{b: Text}", "{a: Text, b: Num}", "{a: Num, b: Num}", "{a: Num, c: Text}", "{a: Num, b: Text, c: Num}"}},
		{"{a: Num, b?: Text}", []string{"{a: Num, b?: Text}", "{a?: Num, b?: Text}"}, []string{"{a: Num, b: Text}", "{a?: Num, b: Text}", "{a: Num}"}},
		{"{a: {b: [Num]}}", []string{"{a: {b: [Num]}}", "{a: {b?: [Any]}}", "{a?: Any}", "{a: {a?: Num, b: Any}}"}, []string{"{a: {b: [None]}}", "{a: {}}", "{b: {b: [Num]}}", "{a: {b: {}}}"}},
	} {
		list := kind(t, c.kind)
		for _, other := range c.yes {
			got, err := kinds.Below(list, kind(t, other))
			wantTruth(t, "Below of "+c.kind+" and "+other, got, err, true, api.OK)
		}
		for _, other := range c.not {
			got, err := kinds.Below(list, kind(t, other))
			wantTruth(t, "Below of "+c.kind+" and "+other, got, err, false, api.OK)
		}
	}
}

// TY4: joins, by hand, each from both sides.
func TestJoin(t *testing.T) {
	for _, c := range []struct{ a, b, want string }{
		{"Bool", "Bool", "Bool"}, {"Num", "Num", "Num"}, {"Text", "Text", "Text"}, {"A", "A", "A"}, {"None", "None", "None"}, {"Any", "Any", "Any"},
		{"Bool", "Num", "Any"}, {"Bool", "Text", "Any"}, {"Num", "Text", "Any"}, {"A", "B", "Any"}, {"A", "Num", "Any"}, {"A", "a", "Any"},
		{"None", "Any", "Any"}, {"None", "Bool", "Bool"}, {"None", "Num", "Num"}, {"None", "Text", "Text"}, {"None", "A", "A"},
		{"None", "[Num]", "[Num]"}, {"None", "[None]", "[None]"}, {"None", "{}", "{}"}, {"None", "{a: Num, b?: None}", "{a: Num, b?: None}"},
		{"Any", "Bool", "Any"}, {"Any", "A", "Any"}, {"Any", "[Num]", "Any"}, {"Any", "{a: Num}", "Any"},
		{"[Num]", "[Num]", "[Num]"}, {"[Num]", "[None]", "[Num]"}, {"[Num]", "[Text]", "[Any]"}, {"[Num]", "[Any]", "[Any]"}, {"[None]", "[None]", "[None]"}, {"[A]", "[B]", "[Any]"},
		{"[[Num]]", "[Num]", "[Any]"}, {"[[Num]]", "[[Text]]", "[[Any]]"}, {"[[None]]", "[None]", "[[None]]"}, {"[[[A]]]", "[[[None]]]", "[[[A]]]"},
		{"[Num]", "Num", "Any"}, {"[Num]", "{}", "Any"}, {"[None]", "{}", "Any"}, {"{}", "Num", "Any"}, {"{a: Num}", "A", "Any"},
		{"{}", "{}", "{}"}, {"{}", "{a: Num}", "{a?: Num}"}, {"{}", "{a?: Num}", "{a?: Num}"}, {"{}", "{a: None, b: Any}", "{a?: None, b?: Any}"},
		{"{a: Num}", "{a: Num}", "{a: Num}"}, {"{a: Num}", "{a?: Num}", "{a?: Num}"}, {"{a?: Num}", "{a?: Num}", "{a?: Num}"},
		{"{a: Num}", "{a: Text}", "{a: Any}"}, {"{a: Num}", "{a?: Text}", "{a?: Any}"}, {"{a: Num}", "{a: None}", "{a: Num}"}, {"{a: None}", "{a: None}", "{a: None}"},
		{"{a: Num}", "{b: Num}", "{a?: Num, b?: Num}"}, {"{a: Num}", "{b: Text}", "{a?: Num, b?: Text}"}, {"{b: Num}", "{B: Num}", "{B?: Num, b?: Num}"},
		{"{a: Num, c: Num, e: Num}", "{b: Text, d: Text, f: Text}", "{a?: Num, b?: Text, c?: Num, d?: Text, e?: Num, f?: Text}"},
		{"{a: Num, b: Num}", "{a: Num}", "{a: Num, b?: Num}"}, {"{a: Num, b: Num}", "{b: Num}", "{a?: Num, b: Num}"}, {"{a: Num, b?: Num}", "{a?: Num, b: Num}", "{a?: Num, b?: Num}"},
		{"{a: Num, b: Num, c: A}", "{b: Text, c: A, d: A}", "{a?: Num, b: Any, c: A, d?: A}"},
		{"[{a: Num}]", "[{b: Num}]", "[{a?: Num, b?: Num}]"}, {"{a: {b: Num}}", "{a: {c: Num}}", "{a: {b?: Num, c?: Num}}"}, {"{a: {}}", "{b: {c: Num}}", "{a?: {}, b?: {c: Num}}"},
		{"{a: [Num]}", "{a: [None]}", "{a: [Num]}"}, {"{a: [Num]}", "{a: {}}", "{a: Any}"},
	} {
		for _, pair := range [][2]string{{c.a, c.b}, {c.b, c.a}} {
			got, err := kinds.Join(kind(t, pair[0]), kind(t, pair[1]))
			wantType(t, "Join of "+pair[0]+" and "+pair[1], got, err, kind(t, c.want), api.OK)
		}
	}
}

// TY4: a join has at most MaxNodes nodes.
func TestJoinFull(t *testing.T) {
	for _, c := range []struct {
		a, b  nodes
		size  int
		wrong api.Errno
	}{
		{wide(199, "a"), wide(199, "a"), 199, api.OK},
		{wide(199, "a"), recOf(), 199, api.OK},
		{wide(121, "a"), wide(79, "b"), 199, api.OK},
		{setOf(wide(121, "a")), setOf(wide(79, "b")), 200, api.OK},
		{wide(121, "a"), wide(81, "b"), 0, api.ErrFull},
		{setOf(setOf(wide(121, "a"))), setOf(setOf(wide(79, "b"))), 0, api.ErrFull},
		{wide(199, "a"), wide(3, "b"), 0, api.ErrFull},
		{wide(199, "a"), wide(199, "b"), 0, api.ErrFull},
		{recOf(fieldOf("a", 1, wide(197, "a"))), recOf(fieldOf("a", 1, leaf(api.KNum))), 3, api.OK},
		{setOf(wide(199, "a")), wide(199, "b"), 1, api.OK},
		{setOf(wide(199, "a")), setOf(leaf(api.KNone)), 200, api.OK},
		{deep(199, api.KNum), deep(199, api.KNone), 200, api.OK},
		{deep(199, api.KNum), deep(198, api.KNum), 199, api.OK},
		{deep(199, api.KNum), leaf(api.KNone), 200, api.OK},
	} {
		for _, pair := range [][2]nodes{{c.a, c.b}, {c.b, c.a}} {
			got, err := kinds.Join(pair[0], pair[1])
			call := "Join of " + shown(pair[0]) + " and " + shown(pair[1])
			wantError(t, call, err, c.wrong)
			if len(got) != c.size {
				t.Errorf("%s: %d nodes, want %d", call, len(got), c.size)
			}
		}
	}
}

// TY5: the types of values, by hand.
func TestOwn(t *testing.T) {
	for _, c := range []struct{ line, want string }{
		{"true", "Bool"}, {"false", "Bool"}, {"0", "Num"}, {"-5", "Num"}, {`""`, "Text"}, {`"Num"`, "Text"}, {`A::"b"`, "A"}, {`Bb::""`, "Bb"},
		{"[]", "[None]"}, {"[1]", "[Num]"}, {"[1, 2, 3]", "[Num]"}, {"[false, true]", "[Bool]"}, {`["a", "b"]`, "[Text]"}, {"[true, 1]", "[Any]"}, {`[1, "a", "b"]`, "[Any]"},
		{`[A::"a", A::"b"]`, "[A]"}, {`[A::"a", B::"a"]`, "[Any]"}, {"[[]]", "[[None]]"}, {"[[], [1]]", "[[Num]]"}, {"[[1], [2, 3]]", "[[Num]]"}, {"[[true], [1]]", "[[Any]]"}, {"[1, []]", "[Any]"}, {"[[], {}]", "[Any]"},
		{"{}", "{}"}, {"{a: 1}", "{a: Num}"}, {`{a: 1, b: "a", c: true}`, "{a: Num, b: Text, c: Bool}"}, {"{a: {}, b: []}", "{a: {}, b: [None]}"}, {`{a: {b: {c: A::"a"}}}`, "{a: {b: {c: A}}}"},
		{"[{}]", "[{}]"}, {"[{}, {a: 1}]", "[{a?: Num}]"}, {"[{a: 1}, {a: 2}]", "[{a: Num}]"}, {"[{a: 1}, {b: 2}]", "[{a?: Num, b?: Num}]"}, {"[{a: true}, {a: 2}]", "[{a: Any}]"},
		{"[{a: 1}, {a: 1, b: 1}, {a: 2, b: 1}]", "[{a: Num, b?: Num}]"}, {"[{a: []}, {a: [1]}]", "[{a: [Num]}]"}, {"[{}, {a: 1}, {a: 2}, {a: 1, b: true}]", "[{a?: Num, b?: Bool}]"},
		{"{a: [{b: 1}, {c: 1}]}", "{a: [{b?: Num, c?: Num}]}"},
	} {
		got, err := kinds.Own(value(t, c.line))
		wantType(t, "Own of "+c.line, got, err, kind(t, c.want), api.OK)
	}
}

// empties is a record of so many empty sets, each of which is a node, and has
// a type of two.
func empties(count int) nodes {
	v := nodes{{Op: api.Rec, N: count}}
	for i := range count {
		v = append(v, api.Node{Op: api.Field, S: fmt.Sprintf("a%03d", i)}, api.Node{Op: api.Set})
	}
	return v
}

// in is a value within a set.
func in(values ...nodes) nodes {
	return append(nodes{{Op: api.Set, N: len(values)}}, slices.Concat(values...)...)
}

// by is a record of one field.
func by(s string, part nodes) nodes {
	return append(nodes{{Op: api.Rec, N: 1}, {Op: api.Field, S: s}}, part...)
}

// TY5: a type of a value's own has at most MaxNodes nodes.
func TestOwnFull(t *testing.T) {
	one := nodes{{Op: api.Num, N: 1}}
	values := slices.Repeat(nodes{{Op: api.Set, N: 1}}, api.MaxNodes-1)
	for _, c := range []struct {
		v     nodes
		size  int
		wrong api.Errno
	}{
		{empties(66), 199, api.OK},
		{in(empties(66)), 200, api.OK},
		{in(in(empties(66))), 0, api.ErrFull},
		{by("b", empties(65)), 198, api.OK},
		{by("b", in(by("b", empties(65)))), 0, api.ErrFull},
		{empties(67), 0, api.ErrFull},
		{empties(99), 0, api.ErrFull},
		{append(slices.Clone(values), one...), 200, api.OK},
		{append(slices.Clone(values), api.Node{Op: api.Set}), 0, api.ErrFull},
		{append(slices.Clone(values[1:]), api.Node{Op: api.Set}), 200, api.OK},
	} {
		got, err := kinds.Own(c.v)
		wantError(t, "Own of "+shown(c.v), err, c.wrong)
		if len(got) != c.size {
			t.Errorf("Own of %s: %d nodes, want %d", shown(c.v), len(got), c.size)
		}
	}
}

// TY5: it is the type told that may not have more than MaxNodes nodes, and not
// what it is joined of.
func TestOwnFullWithin(t *testing.T) {
	one := nodes{{Op: api.Num, N: 1}}
	got, err := kinds.Own(in(one, empties(67)))
	wantType(t, "Own of a number and a wide record", got, err, kind(t, "[Any]"), api.OK)
	got, err = kinds.Own(in(by("b", one), by("b", empties(67))))
	wantType(t, "Own of records with a number, and a wide record", got, err, kind(t, "[{b: Any}]"), api.OK)
}

// wrongs are lists that are neither a type nor a value, and what Check tells.
func wrongs() map[api.Errno]nodes {
	return map[api.Errno]nodes{api.ErrFull: long(), api.ErrSyntax: {{Op: api.KSet}}}
}

// TY2 to TY5: what is wrong with the first one is told, then with the second
// one, and nothing else with it.
func TestErrors(t *testing.T) {
	none := api.OK
	types, values := wrongs(), wrongs()
	types[none], values[none] = leaf(api.KNum), nodes{{Op: api.Num, N: 1}}
	for one, a := range types {
		for two, b := range types {
			wrong := one
			if one == none {
				wrong = two
			}
			well, err := kinds.Below(a, b)
			wantTruth(t, "Below", well, err, wrong == none, wrong)
			join, err := kinds.Join(a, b)
			if wantError(t, "Join", err, wrong); wrong != none && join != nil {
				t.Errorf("Join: got %s with an error", shown(join))
			}
			well, err = kinds.Has(a, values[two])
			wantTruth(t, "Has", well, err, wrong == none, wrong)
		}
		own, err := kinds.Own(values[one])
		if wantError(t, "Own", err, one); one != none && own != nil {
			t.Errorf("Own: got %s with an error", shown(own))
		}
	}
	// A value is no type, a type no value.
	_, err := kinds.Has(leaf(api.KAny), leaf(api.KNum))
	wantError(t, "Has of a type", err, api.ErrSyntax)
	_, err = kinds.Has(values[none], values[none])
	wantError(t, "Has of two values", err, api.ErrSyntax)
	_, err = kinds.Own(leaf(api.KNum))
	wantError(t, "Own of a type", err, api.ErrSyntax)
	for _, list := range []nodes{values[none], {{Op: api.Set}}, {{Op: api.Rec}}, {{Op: api.Set, N: -1}}, {{Op: api.Set, N: math.MaxInt}}, {{Op: api.Var, S: "a"}}} {
		wantCheck(t, list, api.ErrSyntax)
	}
}

// Full joins and types come with nothing beside the error.
func TestFullIsEmpty(t *testing.T) {
	if got, err := kinds.Join(wide(199, "a"), wide(199, "b")); err == nil || got != nil {
		t.Errorf("Join: got %s and %v", shown(got), err)
	}
	if got, err := kinds.Own(empties(99)); err == nil || got != nil {
		t.Errorf("Own: got %s and %v", shown(got), err)
	}
}
