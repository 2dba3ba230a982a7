package fold_test

import (
	"fmt"
	"math"
	"slices"
	"strings"
	"testing"

	"wicketgate/api"
	"wicketgate/fold"
	"wicketgate/phrase"
	"wicketgate/plain"
	"wicketgate/tree"
	"wicketgate/word"
)

// nodes is short for what every call here is about.
type nodes = []api.Node

// shown has no more of a thing than a message can bear.
func shown(x any) string {
	s := fmt.Sprintf("%+q", fmt.Sprint(x))
	if len(s) > 400 {
		s = s[:400] + "..."
	}
	return s
}

// parsed tells the expression of a line.
func parsed(t *testing.T, line string) nodes {
	t.Helper()
	ts, _, err := word.Read(line)
	if err != nil {
		t.Fatalf("Read of %q: %v", line, err)
	}
	e, _, err := phrase.Parse(ts)
	if err != nil {
		t.Fatalf("Parse of %q: %v", line, err)
	}
	return e
}

// wantBetter fails unless Better tells those nodes of an expression.
func wantBetter(t *testing.T, what string, e, want nodes) {
	t.Helper()
	got, err := fold.Better(e)
	if err != nil || !slices.Equal(got, want) {
		t.Errorf("Better of %s: got %s and %v, want %s", what, shown(got), err, shown(want))
	}
}

// told is what Better makes of a line.
type told struct{ line, want string }

func wantLines(t *testing.T, cases []told) {
	t.Helper()
	for _, c := range cases {
		wantBetter(t, c.line, parsed(t, c.line), parsed(t, c.want))
	}
}

// wantSame fails unless Better leaves all lines as they are.
func wantSame(t *testing.T, lines ...string) {
	t.Helper()
	for _, line := range lines {
		wantLines(t, []told{{line, line}})
	}
}

// ofTruths are lines of all nodes of truth but Bool, of which nothing is known.
func ofTruths() []string {
	return []string{"!a", "(a && b)", "(a || b)", "(a == b)", "(a < b)", "(a <= b)", "(a in b)", "(a has b)", `(a like "b")`, "(a is b)", "a.contains(b)", "a.containsAll(b)", "a.containsAny(b)"}
}

// others are lines of all other nodes, of which nothing better is known.
func others() []string {
	return []string{"1", "-1", `"a"`, `A::"a"`, "[]", "[a]", "[1, 2]", "{}", "{a: 1}", "{a: b}", "a", "?a", "principal", "context", "-a", "a.b", "(a + b)", "(a - b)", "(a * b)", "(if a then b else c)", "(if a then true else false)", "(if a then b == c else true)"}
}

// FB2: And and Or, with a Bool as first part.
func TestBetterBoolFirst(t *testing.T) {
	for _, s := range append(ofTruths(), "true", "false") {
		wantLines(t, []told{
			{"true && " + s, s}, {"false && " + s, "false"},
			{"false || " + s, s}, {"true || " + s, "true"},
		})
	}
	for _, s := range others() {
		wantSame(t, "true && "+s, "false || "+s)
		wantLines(t, []told{{"false && " + s, "false"}, {"true || " + s, "true"}})
	}
}

// FB2: And and Or, with a Bool as second part: the first one may go wrong, so
// it is asked for where the second one decides.
func TestBetterBoolSecond(t *testing.T) {
	for _, s := range ofTruths() {
		wantLines(t, []told{{s + " && true", s}, {s + " || false", s}})
		wantSame(t, s+" && false", s+" || true")
	}
	for _, s := range others() {
		wantSame(t, s+" && true", s+" || false", s+" && false", s+" || true")
	}
}

// FB2: If with a Bool as first part, whatever its other parts are.
func TestBetterIf(t *testing.T) {
	all := append(append(ofTruths(), others()...), "true", "false")
	for _, a := range all {
		for _, b := range []string{"1", "d", "!d", `A::"d"`} {
			wantLines(t, []told{{"if true then " + a + " else " + b, a}, {"if false then " + a + " else " + b, b}, {"if false then " + b + " else " + a, a}})
		}
		if a != "true" && a != "false" {
			wantSame(t, "if "+a+" then 1 else 2", "if "+a+" then 1 else 1", "if "+a+" then true else false")
		}
	}
}

// FB2: Not of Not.
func TestBetterNotNot(t *testing.T) {
	for _, s := range ofTruths() {
		wantLines(t, []told{{"!!" + s, s}, {"!!!" + s, "!" + s}, {"!!!!" + s, s}, {"!!(" + s + " && c)", s + " && c"}})
	}
	for _, s := range []string{"true", "false"} {
		wantLines(t, []told{{"!!" + s, s}, {"!!!!" + s, s}})
	}
	for _, s := range others() {
		wantSame(t, "!"+s, "!!"+s)
		wantLines(t, []told{{"!!!" + s, "!" + s}, {"!!!!" + s, "!!" + s}, {"!!!!!" + s, "!" + s}})
	}
}

// FB2: nodes whose parts are all values.
func TestBetterKnown(t *testing.T) {
	wantLines(t, []told{
		{"!true", "false"}, {"!false", "true"}, {"-(1)", "-1"}, {"-(0)", "0"}, {"-(-5)", "5"}, {"-(9223372036854775807)", "-9223372036854775807"},
		{"1 + 2", "3"}, {"1 - 2", "-1"}, {"3 * -4", "-12"}, {"1 + 2 * 3 - 4", "3"}, {"9223372036854775806 + 1", "9223372036854775807"}, {"-9223372036854775807 - 1", "-9223372036854775808"},
		{"1 < 2", "true"}, {"2 < 2", "false"}, {"2 <= 2", "true"}, {"3 <= 2", "false"},
		{"1 == 1", "true"}, {"1 == 2", "false"}, {`1 == "1"`, "false"}, {"[2, 1] == [1, 2, 1]", "true"}, {"{a: [2, 1]} == {a: [1, 2]}", "true"}, {"{} == []", "false"},
		{`"abc" like "a*c"`, "true"}, {`"abc" like "a\\*c"`, "false"}, {`"a*c" like "a\\*c"`, "true"},
		{"{a: 1} has a", "true"}, {"{a: 1} has b", "false"}, {"{} has a", "false"}, {"{a: 1, b: [2, 1]}.b", "[1, 2]"}, {"{a: {a: {a: 1}}}.a.a", "{a: 1}"},
		{"[1, 2].contains(2)", "true"}, {"[1, 2].contains(3)", "false"}, {"[].contains([])", "false"}, {"[[]].contains([])", "true"}, {"[2, 1].containsAll([1, 1])", "true"}, {"[1].containsAll([1, 2])", "false"}, {"[1].containsAny([2, 1])", "true"}, {"[1].containsAny([])", "false"},
		{"[2, 1]", "[1, 2]"}, {"[1, 1]", "[1]"}, {"[[2, 1], [1, 2]]", "[[1, 2]]"}, {`[{}, [], "b", "a", 2, -1, true, false]`, `[false, true, -1, 2, "a", "b", [], {}]`}, {"{a: [2, 1], b: 1 + 1}", "{a: [1, 2], b: 2}"},
		{"[1 + 1, 2]", "[2]"}, {"[if true then 2 else a, 1]", "[1, 2]"},
	})
	wantSame(t, "true", "false", "7", "-7", `"a*"`, "[]", "{}", "[1, 2]", "[[], [1]]", "{a: [1], b: {c: 2}}", `A::"a"`, `[A::"a"]`, `{a: A::"a"}`)
}

// FB1, FB2: what goes wrong is left as it is, so that it goes as wrong; so are
// names, of which nothing is known, and what has more parts than values.
func TestBetterLeavesWrongs(t *testing.T) {
	wantSame(t,
		"!1", `!"a"`, "!{}", "-(-9223372036854775808)", "-true", "-[]", "9223372036854775807 + 1", "-9223372036854775808 - 1", "9223372036854775807 * 2", "-9223372036854775808 * -1", "1 + true", `"a" + "b"`, `1 < "a"`, "true <= false", "[] < []",
		"1 in 1", "1 in []", "{a: 1}.b", "{}.a", "[].a", "1.a", "1 has a", "[] has a", `1 like "a"`, `{} like "*"`, `"A" is A`, "1.contains(1)", "[].containsAll(1)", "1.containsAny([])", "{a: 1}.containsAll({a: 1})",
		"1 && true", "1 && false", "true && 1", "[] || false", "false || {}", "if 1 then 2 else 3", "if [] then true else false",
		"principal", "action", "resource", "context", "x", "?x", "[principal]", "[b, a]", "[a, a]", "{a: x}", "context.a", "principal == principal", "a == a", "a - a", "0 * a", "a + 0", "1 * a", "-(-a)", `"" + a`, "[a].contains(a)", "[].contains(a)", "{a: 1, b: c}.a", "{a: 1, b: c} has a", `a like "*"`, "[2, 1, a]", "[1, 1, a]", "1 + a + 2", "1 == (true == a)",
	)
	wantLines(t, []told{{"1 + true + (1 + 1)", "1 + true + 2"}, {"[1 + true, 2, 2]", "[1 + true, 2, 2]"}, {"[[2, 1], 1 + true]", "[[1, 2], 1 + true]"}, {"1 == (!false == a)", "1 == (true == a)"}, {"(1 == true) == a", "false == a"}})
}

// FB2: values with an Ent in them are left to the store, wherever it stands.
func TestBetterLeavesEnts(t *testing.T) {
	wantSame(t,
		`A::"x" == A::"x"`, `A::"x" == A::"y"`, `A::"x" == 1`, `1 == A::"x"`, `A::"x" in A::"x"`, `A::"x" in [A::"x"]`, `A::"x" in []`, `A::"x" has a`, `A::"x".a`, `A::"x" is A`, `A::"x" like "a"`, `!A::"x"`, `-A::"x"`,
		`[A::"y", A::"x"]`, `[A::"x", A::"x"]`, `[1, 1, A::"x"]`, `[[A::"x"], [A::"x"]]`, `{a: A::"x"}.a`, `{a: 1, b: A::"x"}.a`, `{a: A::"x"} has a`, `{a: {b: [A::"x"]}} has a`, `[A::"x"].contains(A::"x")`, `[A::"x"].contains(1)`, `[1].contains(A::"x")`, `[A::"x"].containsAll([])`, `[].containsAny([A::"x"])`, `[1] == [A::"x"]`,
	)
	wantLines(t, []told{{`[[2, 1], A::"x"]`, `[[1, 2], A::"x"]`}, {`if 1 < 2 then A::"x" else A::"y"`, `A::"x"`}, {`true && A::"x" == A::"y"`, `A::"x" == A::"y"`}, {`false && A::"x".a`, "false"}, {`!!(A::"x" in A::"y") && true`, `A::"x" in A::"y"`}, {`true && A::"x"`, `true && A::"x"`}})
}

// FB1, FB2: what is better in a part lets the whole be better, over and over.
func TestBetterAgain(t *testing.T) {
	wantLines(t, []told{
		{"1+2*3", "7"}, {"{a: 1 + 1}.a", "2"}, {"if 1 < 2 then a else b", "a"},
		{"if if 1 < 2 then true else a then b else c", "b"}, {"true && (if true then a == b else c)", "a == b"}, {"(if !true then a else a has b) && !false", "a has b"},
		{"a == b && 1 == 1 && (2 == 3 || true) && !(1 < 0)", "a == b"}, {"a && true && true", "a && true"}, {"true && (true && a)", "true && a"}, {"false || true && a", "true && a"}, {"false || a && true", "a && true"},
		{"!!!!!!(a && true)", "a && true"}, {"!!(true && (true && !!(a is B)))", "a is B"}, {"!(a == b && false || false)", "!(a == b && false)"}, {"!(if {a: true}.a then false else x)", "true"},
		{"if !(1 == 2) && a then 1 + 1 else [2, 1]", "if true && a then 2 else [1, 2]"}, {"[true && false, !true, false || false, x]", "[false, false, false, x]"}, {"[true && false, !true, false || false]", "[false]"},
		{"(if true then principal else x) in (if false then x else resource)", "principal in resource"}, {"{a: !!(a < b), b: 0 - 1}.b", "{a: a < b, b: -1}.b"}, {`("a" like "*" && x has y).z`, "(x has y).z"},
	})
}

// spread tells an expression of as many nodes as may be: so many nodes of that
// kind, each the last part of the one ahead, and then the end.
func spread(count int, head, end nodes) nodes {
	return append(slices.Repeat(head, count), end...)
}

// FB1, FB2: the largest expressions, wide and deep.
func TestBetterOfTheLargest(t *testing.T) {
	yes, no, x, less := api.Node{Op: api.Bool, N: 1}, api.Node{Op: api.Bool}, api.Node{Op: api.Var, S: "x"}, nodes{{Op: api.Lt}, {Op: api.Var, S: "x"}, {Op: api.Num, N: 1}}
	one := api.Node{Op: api.Num, N: 1}
	var rising, falling nodes
	for i := range 199 {
		rising, falling = append(rising, api.Node{Op: api.Num, N: i}), append(falling, api.Node{Op: api.Num, N: 198 - i})
	}
	all := api.Node{Op: api.Set, N: 199}
	nest := spread(199, nodes{{Op: api.Set, N: 1}}, nodes{{Op: api.Set}})
	cases := []struct {
		what    string
		e, want nodes
	}{
		{"199 Not", spread(199, nodes{{Op: api.Not}}, nodes{yes}), nodes{no}},
		{"199 Not of x", spread(199, nodes{{Op: api.Not}}, nodes{x}), nodes{{Op: api.Not}, x}},
		{"198 Not of x", spread(198, nodes{{Op: api.Not}}, nodes{x}), nodes{{Op: api.Not}, {Op: api.Not}, x}},
		{"196 Not of Lt", spread(196, nodes{{Op: api.Not}}, less), less},
		{"98 And", spread(98, nodes{{Op: api.And}, yes}, less), less},
		{"98 Or", spread(98, nodes{{Op: api.Or}, no}, less), less},
		{"66 If", spread(66, nodes{{Op: api.If}, no, x}, nodes{one}), nodes{one}},
		{"99 Add", spread(99, nodes{{Op: api.Add}, one}, nodes{one}), nodes{{Op: api.Num, N: 100}}},
		{"99 Add of x", spread(99, nodes{{Op: api.Add}, one}, nodes{x}), spread(99, nodes{{Op: api.Add}, one}, nodes{x})},
		{"199 rising", append(nodes{all}, rising...), append(nodes{all}, rising...)},
		{"199 falling", append(nodes{all}, falling...), append(nodes{all}, rising...)},
		{"199 the same", append(nodes{all}, slices.Repeat(nodes{one}, 199)...), nodes{{Op: api.Set, N: 1}, one}},
		{"200 Sets", nest, nest},
		{"66 Gets of Recs", spread(66, nodes{{Op: api.Get, S: "a"}, {Op: api.Rec, N: 1}, {Op: api.Field, S: "a"}}, nodes{one}), nodes{one}},
		{"66 Sets of two", spread(66, nodes{{Op: api.Set, N: 2}, {Op: api.Rec}}, nodes{one}), nil},
	}
	for _, c := range cases {
		if len(c.e) > api.MaxNodes {
			t.Fatalf("%s: %d nodes", c.what, len(c.e))
		}
		if c.want != nil {
			wantBetter(t, c.what, c.e, c.want)
		}
		holds(t, nil, c.e)
	}
}

// FB1: Check of chapter 7 comes first, and nothing is told with it.
func TestBetterChecks(t *testing.T) {
	one := api.Node{Op: api.Num, N: 1}
	wrong := map[api.Errno][]nodes{
		api.ErrFull: {make(nodes, api.MaxNodes+1), slices.Repeat(nodes{one}, api.MaxNodes+1), spread(api.MaxNodes, nodes{{Op: api.Not}}, nodes{one}), append(nodes{{Op: api.Set, N: api.MaxNodes}}, slices.Repeat(nodes{one}, api.MaxNodes)...)},
		api.ErrSyntax: {
			nil, {}, {{}}, {one, one}, {{Op: api.Not}}, {{Op: api.And}, {Op: api.Bool}}, {{Op: api.And}, {Op: api.Bool}, {Op: api.Bool, N: 2}}, {{Op: api.If}, {Op: api.Bool, N: 1}, one}, {{Op: api.If}, {Op: api.Bool, N: 1}, one, {Op: api.Var, S: "if"}},
			{{Op: api.Field, S: "a"}, one}, {{Op: api.Rec, N: 1}, one}, {{Op: api.Rec, N: 2}, {Op: api.Field, S: "b"}, one, {Op: api.Field, S: "a"}, one}, {{Op: api.Set, N: math.MaxInt}}, {{Op: api.Set, N: -1}}, {{Op: api.Set, N: 1}}, {{Op: 28}}, {{Op: -1}}, {{Op: api.Not, N: 1}, {Op: api.Bool}}, {{Op: api.Text, S: "\n"}}, {{Op: api.Or}, {Op: api.Bool, N: 1}, {Op: api.Like, S: strings.Repeat("a", 61)}, one}, make(nodes, api.MaxNodes),
		},
	}
	for want, list := range wrong {
		for _, e := range list {
			got, err := fold.Better(e)
			if plain.Told(err) != want || got != nil {
				t.Errorf("Better of %s: got %s and %v, want %v", shown(e), shown(got), err, want)
			}
		}
	}
}

// P2, P4: what is handed in is neither written into nor shared, nor is what
// lies behind its length read or written.
func TestBetterMemory(t *testing.T) {
	junk := api.Node{Op: api.Not, N: 3, S: "junk", T: "junk"}
	for _, line := range append(others(), "true", "1 + 2", "[2, 1]", "if true then [1, 2] else a", "true && a == b", "!!(a is B)", "{a: [2, 1]}.a", "[a, [2, 1]]", "false && a", "a has b && true") {
		longer := append(parsed(t, line), junk, junk, junk)
		before := slices.Clone(longer)
		e := longer[:len(longer)-3]
		got, err := fold.Better(e)
		if err != nil {
			t.Fatalf("Better of %s: %v", line, err)
		}
		want := slices.Clone(got)
		again, _ := fold.Better(e)
		got = got[:cap(got)]
		for i := range got {
			got[i] = junk
		}
		if !slices.Equal(again, want) {
			t.Errorf("Better of %s: two answers share memory", line)
		}
		if !slices.Equal(longer, before) {
			t.Errorf("Better of %s: what was handed in is changed", line)
		}
	}
}

// P1: whatever is handed in, the call ends, and tells an expression or what
// Check tells.
func TestBetterOfAnything(t *testing.T) {
	m := newMaker(3)
	well := 0
	for range 50000 {
		var e nodes
		for range m.IntN(8) {
			e = append(e, api.Node{Op: m.IntN(29), N: pick(m, []int{0, 0, 0, 1, 2}), S: pick(m, []string{"", "", "a", "if", "principal"})})
		}
		got, err := fold.Better(e)
		if want := tree.Check(e); plain.Told(err) != plain.Told(want) || err != nil && got != nil {
			t.Fatalf("Better of %s: got %s and %v, want %v", shown(e), shown(got), err, want)
		}
		if err == nil {
			holds(t, nil, e)
			well++
		}
	}
	if well < 500 {
		t.Errorf("just %d were expressions", well)
	}
}
