package check_test

import (
	"fmt"
	"math"
	"slices"
	"strings"
	"testing"

	"wicketgate/api"
	"wicketgate/check"
	"wicketgate/phrase"
	"wicketgate/plain"
	"wicketgate/word"
)

// nodes is short for what every call here is about.
type nodes = []api.Node

// shown has no more of a thing than a message can bear.
func shown(x any) string {
	s := fmt.Sprintf("%+q", fmt.Sprint(x))
	if len(s) > 600 {
		s = s[:600] + "..."
	}
	return s
}

// parsed tells the expression of a line.
func parsed(t *testing.T, line string) nodes {
	t.Helper()
	ts, _, err := word.Read(line)
	if err != nil {
		t.Fatalf("Read of %q: %v", line, err)
	}
	e, _, err := phrase.Parse(ts)
	if err != nil {
		t.Fatalf("Parse of %q: %v", line, err)
	}
	return e
}

// Short forms of types.

func leaf(op int) nodes             { return nodes{{Op: op}} }
func ofEnt(s string) nodes          { return nodes{{Op: api.KEnt, S: s}} }
func ofSet(part nodes) nodes        { return append(leaf(api.KSet), part...) }
func must(s string, k nodes) nodes  { return append(nodes{{Op: api.KField, N: 1, S: s}}, k...) }
func maybe(s string, k nodes) nodes { return append(nodes{{Op: api.KField, S: s}}, k...) }
func ofRec(fields ...nodes) nodes {
	return append(nodes{{Op: api.KRec, N: len(fields)}}, slices.Concat(fields...)...)
}

// The types that one node says.
var (
	kBool = leaf(api.KBool)
	kNum  = leaf(api.KNum)
	kText = leaf(api.KText)
	kAny  = leaf(api.KAny)
	kNone = leaf(api.KNone)
)

// house is the schema that lines are typed in here. Ghost is no Kind: it is
// there for an act alone.
func house() api.Schema {
	inner := ofRec(maybe("m", kNum), must("n", kNum))
	user := ofRec(maybe("boss", ofEnt("User")), maybe("m", kNum), must("n", kNum), maybe("rec", inner), must("tags", ofSet(kText)))
	return api.Schema{
		Kinds: []api.Kind{
			{Name: "User", Up: []string{"Group"}, Attrs: user},
			{Name: "Doc", Attrs: ofRec(maybe("m", kText), must("owner", ofEnt("User")))},
			{Name: "Bare", Attrs: ofRec()},
		},
		Acts: []api.Act{
			{Id: "see", Who: []string{"User", "Ghost"}, What: []string{"Doc", "Bare"}, Context: ofRec(must("any", kAny), must("n", kNum), maybe("none", kNone), maybe("rec", inner), must("void", kNone))},
			{Id: "", Who: []string{"Bare"}, What: []string{"User"}, Context: ofRec()},
			{Id: "idle", Context: ofRec()},
			{Id: "late", Who: []string{"A", "User"}, What: []string{"B", "C", "User"}, Context: ofRec(must("n", kText))},
		},
	}
}

// wantTold fails unless these are the type and the error that are wanted.
func wantTold(t *testing.T, what string, got nodes, err error, want nodes, wrong api.Errno) {
	t.Helper()
	if plain.Told(err) != wrong || !slices.Equal(got, want) || wrong != api.OK && got != nil {
		t.Errorf("Type of %s: got %s and %v, want %s and %v", what, shown(got), err, shown(want), wrong)
	}
}

// wantType fails unless a line has that type, for a user who sees a doc.
func wantType(t *testing.T, want nodes, lines ...string) {
	t.Helper()
	for _, line := range lines {
		got, err := check.Type(house(), "User", "see", "Doc", parsed(t, line))
		wantTold(t, line, got, err, want, api.OK)
	}
}

// wantWrong fails unless a line has no type, but that error.
func wantWrong(t *testing.T, want api.Errno, lines ...string) {
	t.Helper()
	for _, line := range lines {
		got, err := check.Type(house(), "User", "see", "Doc", parsed(t, line))
		wantTold(t, line, got, err, nil, want)
	}
}

// CH1: the act, and those whom it is for.
func TestAct(t *testing.T) {
	yes := nodes{{Op: api.Bool, N: 1}}
	for _, c := range []struct {
		who, act, what string
		want           api.Errno
	}{
		{"User", "see", "Doc", api.OK}, {"Ghost", "see", "Bare", api.OK}, {"Ghost", "see", "Doc", api.OK}, {"User", "see", "Bare", api.OK},
		{"Bare", "", "User", api.OK}, {"User", "late", "User", api.OK}, {"A", "late", "B", api.OK}, {"A", "late", "C", api.OK},
		{"User", "do", "Doc", api.ErrNone}, {"User", "See", "Doc", api.ErrNone}, {"User", "se", "Doc", api.ErrNone}, {"User", "seee", "Doc", api.ErrNone}, {"User", `Action::"see"`, "Doc", api.ErrNone}, {"User", "\x00", "Doc", api.ErrNone}, {"", "User", "", api.ErrNone}, {"X", strings.Repeat("x", 99), "X", api.ErrNone},
		{"Doc", "see", "Doc", api.ErrType}, {"User", "see", "User", api.ErrType}, {"Doc", "see", "User", api.ErrType}, {"Bare", "see", "Doc", api.ErrType}, {"Group", "see", "Doc", api.ErrType}, {"", "see", "Doc", api.ErrType}, {"User", "see", "", api.ErrType}, {"user", "see", "Doc", api.ErrType}, {"User", "see", "doc", api.ErrType}, {"Use", "see", "Doc", api.ErrType}, {"User", "see", "Docs", api.ErrType}, {"\xff", "see", strings.Repeat("x", 99), api.ErrType},
		{"User", "", "User", api.ErrType}, {"Bare", "", "Bare", api.ErrType}, {"User", "idle", "Doc", api.ErrType}, {"", "idle", "", api.ErrType}, {"Action", "see", "Doc", api.ErrType},
	} {
		got, err := check.Type(house(), c.who, c.act, c.what, yes)
		want := kBool
		if c.want != api.OK {
			want = nil
		}
		wantTold(t, fmt.Sprintf("true for %q, %q, %q", c.who, c.act, c.what), got, err, want, c.want)
	}
}

// CH1: the schema comes first, then the expression, the act, whom it is for,
// and at last what the expression's types are.
func TestOrderOfCall(t *testing.T) {
	many, twice, wrongAct := house(), house(), house()
	many.Kinds = slices.Repeat(many.Kinds, 3)
	twice.Kinds = append(twice.Kinds, twice.Kinds[0])
	wrongAct.Acts[2].Context = kBool
	long, none, x := make(nodes, 201), nodes(nil), nodes{{Op: api.Var, S: "x"}}
	for _, c := range []struct {
		told           string
		s              api.Schema
		who, act, what string
		e              nodes
		want           api.Errno
	}{
		{"a full schema, then all", many, "X", "do", "X", none, api.ErrFull},
		{"a kind twice, then all", twice, "X", "do", "X", long, api.ErrTwice},
		{"a wrong act, then all", wrongAct, "X", "do", "X", none, api.ErrType},
		{"a wrong act that is not asked", wrongAct, "User", "see", "Doc", nodes{{Op: api.Bool}}, api.ErrType},
		{"a long expression, then all", house(), "X", "do", "X", long, api.ErrFull},
		{"no expression, then all", house(), "X", "do", "X", none, api.ErrSyntax},
		{"no expression, then whom", house(), "X", "see", "X", none, api.ErrSyntax},
		{"two expressions", house(), "User", "see", "Doc", nodes{{Op: api.Bool}, {Op: api.Bool}}, api.ErrSyntax},
		{"a type as expression", house(), "User", "see", "Doc", kBool, api.ErrSyntax},
		{"no act, then all", house(), "X", "do", "X", x, api.ErrNone},
		{"no act, then the expression", house(), "User", "do", "Doc", nodes{{Op: api.Not}, {Op: api.Num}}, api.ErrNone},
		{"whom, then the expression", house(), "X", "see", "Doc", x, api.ErrType},
		{"what, then the expression", house(), "User", "see", "X", x, api.ErrType},
		{"the expression", house(), "User", "see", "Doc", x, api.ErrNone},
		{"an empty schema", api.Schema{}, "User", "see", "Doc", x, api.ErrNone},
	} {
		got, err := check.Type(c.s, c.who, c.act, c.what, c.e)
		wantTold(t, c.told, got, err, nil, c.want)
	}
}

// CH2: nodes of truth, numbers, texts and entities.
func TestTypesOfPlainNodes(t *testing.T) {
	wantType(t, kBool, "true", "false", "!true", "true && false", "true || false", "1 == 1", `1 == "a"`, "principal == {}", "1 < 2", "1 <= 2", "principal in resource", "principal has x", "context has x", "{} has a", `"a" like "*"`, "principal is Doc", "principal is X", "[].contains(1)", "[1].contains(true)", "[].containsAll([1])", `[1].containsAny(["a"])`)
	wantType(t, kNum, "0", "-7", "-(1)", "1 + 2", "1 - 2", "2 * 3", "9223372036854775807 + 1", "-(-9223372036854775808)")
	wantType(t, kText, `""`, `"a"`)
	wantType(t, ofEnt("User"), `User::"a"`)
	wantType(t, ofEnt("X"), `X::""`)
}

// CH2: names.
func TestTypesOfNames(t *testing.T) {
	wantType(t, ofEnt("User"), "principal")
	wantType(t, ofEnt("Doc"), "resource")
	wantType(t, ofEnt("Action"), "action")
	wantType(t, house().Acts[0].Context, "context")
	wantWrong(t, api.ErrNone, "x", "Principal", "principals", "who", "?principal", "?resource", "?context", "User", "see", "?x")
	for _, c := range []struct {
		who, act, what, line string
		want                 nodes
	}{
		{"Ghost", "see", "Bare", "principal", ofEnt("Ghost")}, {"Ghost", "see", "Bare", "resource", ofEnt("Bare")}, {"Ghost", "see", "Bare", "action", ofEnt("Action")},
		{"Bare", "", "User", "principal", ofEnt("Bare")}, {"Bare", "", "User", "resource", ofEnt("User")}, {"Bare", "", "User", "action", ofEnt("Action")}, {"Bare", "", "User", "context", ofRec()},
		{"User", "late", "B", "context.n", kText}, {"A", "late", "User", "resource.n", kNum}, {"User", "late", "User", "resource.owner == principal.tags", nil},
	} {
		got, err := check.Type(house(), c.who, c.act, c.what, parsed(t, c.line))
		wrong := api.OK
		if c.want == nil {
			wrong = api.ErrNone
		}
		wantTold(t, c.line, got, err, c.want, wrong)
	}
}

// CH2: sets, records and If, whose types are made of others.
func TestTypesOfMadeNodes(t *testing.T) {
	wantType(t, ofSet(kNone), "[]")
	wantType(t, ofSet(kNum), "[1]", "[1, 2]", "[1, 1, 1 + 1]", "[context.void, 1]", "[1, context.void]")
	wantType(t, ofSet(kAny), "[1, true]", `["a", 1, 1]`, "[principal, resource]", "[1, []]", "[{}, []]", "[context.any]", "[context.any, 1]")
	wantType(t, ofSet(ofEnt("User")), "[principal]", `[principal, User::"a"]`)
	wantType(t, ofSet(ofSet(kNone)), "[[]]")
	wantType(t, ofSet(ofSet(kNum)), "[[], [1]]", "[[1], []]")
	wantType(t, ofSet(ofSet(kAny)), "[[1], [true]]")
	wantType(t, ofSet(ofRec(maybe("a", kNum), must("b", kAny), maybe("c", kText))), `[{a: 1, b: 2}, {b: true, c: "a"}]`)
	wantType(t, ofRec(), "{}")
	wantType(t, ofRec(must("a", kNum)), "{a: 1}")
	wantType(t, ofRec(must("a", ofRec(must("c", ofSet(kNone)))), must("b", ofEnt("User"))), "{a: {c: []}, b: principal}")
	wantType(t, ofRec(must("a", kAny), must("b", kNone)), "{a: context.any, b: context.void}")
	wantType(t, kNum, "if true then 1 else 2", "if false then context.void else 1", "if context.void then 1 else 2")
	wantType(t, kAny, "if true then 1 else true", "if true then 1 else context.any", "if true then principal else resource", "if true then {} else []")
	wantType(t, ofSet(kNum), "if true then [] else [1]", "if true then [1] else []")
	wantType(t, ofRec(maybe("a", kNum)), "if true then {a: 1} else {}", "if true then {} else {a: 1}")
	wantType(t, ofRec(must("a", kAny), maybe("b", kNum)), "if true then {a: 1, b: 1} else {a: true}")
	wantType(t, kNone, "if true then context.void else context.void")
}

// CH2: what records and entities have by a name that must be there.
func TestTypesOfGets(t *testing.T) {
	wantType(t, kNum, "principal.n", "context.n", "{a: 1}.a", "{a: {b: 1}, b: true}.a.b", "resource.owner.n", `User::"x".n`, "(if true then principal else resource.owner).n", "(if true then {a: 1, b: 1} else {a: 2}).a")
	wantType(t, ofEnt("User"), "resource.owner", `Doc::"x".owner`)
	wantType(t, ofSet(kText), "principal.tags", "resource.owner.tags")
	wantType(t, kAny, "context.any")
	wantType(t, kNone, "context.void", "context.void.x", "context.void.x.y", "{a: context.void}.a.b")
	wantWrong(t, api.ErrNone,
		"principal.x", "resource.n", "context.x", "{}.a", "{a: 1}.b", `Bare::"x".a`, "principal.N", "principal.tag", "principal.nn",
		`X::"x".n`, "action.n", `Group::"x".n`, "action.x", `user::"x".n`, `Action::"see".n`,
		"principal.m", "principal.boss", "context.rec", "context.none", "resource.m", `User::"x".m`, "principal.rec.n", "principal.boss.n", "resource.owner.m", "(if true then {a: 1} else {}).a", "(if true then {a: 1} else {b: 1}).b",
	)
	wantWrong(t, api.ErrType, "true.a", "1.a", `"a".a`, "[].a", "[{a: 1}].a", "context.any.a", "principal.n.n", "principal.tags.n", "(if true then principal else resource).m", "(1 == 1).a")
	got, err := check.Type(house(), "Ghost", "see", "Doc", parsed(t, "principal.n"))
	wantTold(t, "principal.n of no kind", got, err, nil, api.ErrNone)
	s := house()
	s.Kinds = append(s.Kinds, api.Kind{Name: "Action", Attrs: ofRec(must("n", kText))})
	got, err = check.Type(s, "User", "see", "Doc", parsed(t, "action.n"))
	wantTold(t, "action.n of a kind", got, err, kText, api.OK)
}

// sample is an expression of a type, by which nodes are held to CH3.
type sample struct {
	name string
	e    nodes
	kind nodes
}

// samples are expressions of all types, and the schema in which they are.
func samples() (api.Schema, []sample) {
	types := []struct {
		name string
		kind nodes
	}{
		{"any", kAny}, {"bool", kBool}, {"ent", ofEnt("A")}, {"entx", ofEnt("X")}, {"none", kNone}, {"num", kNum}, {"rec", ofRec(must("a", kNum))}, {"recx", ofRec()},
		{"setany", ofSet(kAny)}, {"setent", ofSet(ofEnt("X"))}, {"setnone", ofSet(kNone)}, {"setnum", ofSet(kNum)}, {"setrec", ofSet(ofRec())}, {"setset", ofSet(ofSet(ofEnt("A")))}, {"text", kText},
	}
	var fields []nodes
	var all []sample
	for _, c := range types {
		fields = append(fields, must(c.name, c.kind))
		all = append(all, sample{c.name, nodes{{Op: api.Get, S: c.name}, {Op: api.Var, S: "context"}}, c.kind})
	}
	return api.Schema{
		Kinds: []api.Kind{{Name: "A", Attrs: ofRec(must("a", kText))}},
		Acts:  []api.Act{{Id: "a", Who: []string{"A"}, What: []string{"A"}, Context: ofRec(fields...)}},
	}, all
}

// CH3: all nodes with parts, of parts of all types: an empty list is of all
// types, any other one of those that begin so, and of none.
func TestTypesOfParts(t *testing.T) {
	s, all := samples()
	ents := []string{"ent"}
	for _, c := range []struct {
		n     api.Node
		parts [][]string
		want  nodes
	}{
		{api.Node{Op: api.Not}, [][]string{{"bool"}}, kBool},
		{api.Node{Op: api.Neg}, [][]string{{"num"}}, kNum},
		{api.Node{Op: api.Like, S: "a*"}, [][]string{{"text"}}, kBool},
		{api.Node{Op: api.Is, S: "A"}, [][]string{ents}, kBool},
		{api.Node{Op: api.Has, S: "a"}, [][]string{{"rec", "ent"}}, kBool},
		{api.Node{Op: api.Has, S: "z"}, [][]string{{"rec", "ent"}}, kBool},
		{api.Node{Op: api.And}, [][]string{{"bool"}, {"bool"}}, kBool},
		{api.Node{Op: api.Or}, [][]string{{"bool"}, {"bool"}}, kBool},
		{api.Node{Op: api.Eq}, [][]string{{}, {}}, kBool},
		{api.Node{Op: api.Lt}, [][]string{{"num"}, {"num"}}, kBool},
		{api.Node{Op: api.Le}, [][]string{{"num"}, {"num"}}, kBool},
		{api.Node{Op: api.Add}, [][]string{{"num"}, {"num"}}, kNum},
		{api.Node{Op: api.Sub}, [][]string{{"num"}, {"num"}}, kNum},
		{api.Node{Op: api.Mul}, [][]string{{"num"}, {"num"}}, kNum},
		{api.Node{Op: api.In}, [][]string{ents, {"ent", "setent", "setnone"}}, kBool},
		{api.Node{Op: api.One}, [][]string{{"set"}, {}}, kBool},
		{api.Node{Op: api.All}, [][]string{{"set"}, {"set"}}, kBool},
		{api.Node{Op: api.Any}, [][]string{{"set"}, {"set"}}, kBool},
	} {
		for _, first := range all {
			seconds := all
			if len(c.parts) == 1 {
				seconds = []sample{{}}
			}
			for _, second := range seconds {
				e := append(append(nodes{c.n}, first.e...), second.e...)
				got, err := check.Type(s, "A", "a", "A", e)
				if may(c.parts[0], first) && (len(c.parts) == 1 || may(c.parts[1], second)) {
					wantTold(t, shown(e), got, err, c.want, api.OK)
				} else {
					wantTold(t, shown(e), got, err, nil, api.ErrType)
				}
			}
		}
	}
}

// may tells if a part may have the type of a sample.
func may(begins []string, s sample) bool {
	for _, b := range begins {
		if strings.HasPrefix(s.name, b) {
			return true
		}
	}
	return len(begins) == 0 || s.name == "none"
}

// CH2, CH3: Get and If, of parts of all types.
func TestTypesOfPartsTold(t *testing.T) {
	s, all := samples()
	for _, c := range all {
		for name, want := range map[string]map[string]nodes{"a": {"rec": kNum, "ent": kText, "none": kNone}, "z": {"none": kNone}} {
			e := append(nodes{{Op: api.Get, S: name}}, c.e...)
			got, err := check.Type(s, "A", "a", "A", e)
			switch kind, found := want[c.name]; {
			case found:
				wantTold(t, shown(e), got, err, kind, api.OK)
			case may([]string{"rec", "ent"}, c):
				wantTold(t, shown(e), got, err, nil, api.ErrNone)
			default:
				wantTold(t, shown(e), got, err, nil, api.ErrType)
			}
		}
		for _, other := range all {
			e := slices.Concat(nodes{{Op: api.If}}, c.e, other.e, other.e)
			got, err := check.Type(s, "A", "a", "A", e)
			if may([]string{"bool"}, c) {
				wantTold(t, shown(e), got, err, other.kind, api.OK)
			} else {
				wantTold(t, shown(e), got, err, nil, api.ErrType)
			}
		}
	}
}

// CH1, CH3: the types of parts are asked for from the first on, all of them,
// and the first error is told; that a type is another one is told behind them.
func TestOrderOfParts(t *testing.T) {
	wantWrong(t, api.ErrNone, "x + (1 + true)", "true + x", "x && 1", "1 && x", "true && (1 && x)", "false && x", "true || x", "1 || x", "if 1 then x else 2", "if 1 then 2 else x", "if true then 1 else x", "if false then x else 1", "[x, !1]", "{a: x, b: !1}", "1 in x", "1.contains(x)", "principal in [x]", "!x", "-x", "x.a", "x has a", `x like "a"`, "x is A", "x == !1", "principal.x + true", "[1, principal.m, !1]")
	wantWrong(t, api.ErrType, "(1 + true) + x", "!1 && x", "true && !1", "if !1 then x else x", "if true then !1 else x", "if 1 then !1 else x", "[!1, x]", "[1, !1, x]", "{a: !1, b: x}", "!1 == x", "(!1).a", "[!1].contains(x)", "-true + x", "(1.a).x", "if 1 then 2 else 3", "1 && true", "true && 1", "false && 1", "true || 1", "(1 in principal) in x")
}

// CH4: names that are known to be there.
func TestKnown(t *testing.T) {
	wantType(t, kBool,
		"principal has m && principal.m < 3", "principal has m && principal.m == 1 && principal.m < 3", "principal has m && (true && principal.m < 3)", "principal has m && (false || principal.m < 3)", "principal has m && !(principal.m < 3)", "principal has m && [principal.m].contains(1)", "principal has m && {a: principal.m} == {}", "principal has m && (if principal.m < 1 then principal.m < 2 else principal.m < 3)", "principal has m && (principal.m < 3 && true || principal.m < 4)",
		"(principal has m && 1 < 2) && principal.m < 3", "(1 < 2 && principal has m) && principal.m < 3", "1 < 2 && principal has m && 1 < 2 && principal.m < 3", "(true && (true && principal has m)) && principal.m < 3",
		"principal has m && (resource has m && (principal.m < 1 && resource.m like \"a\"))", "(principal has m && resource has m) && (principal.m < 1 && resource.m like \"a\")", "(principal has m && principal.m < 1) && principal.m < 2", "(principal has m && resource has m && principal has rec) && resource.m == principal.rec.n",
		"principal has boss && principal.boss.n < 1", "principal has boss && (principal.boss has m && principal.boss.m < 1)", "principal has boss && principal.boss has m && principal.boss.m < 1", "principal has rec && principal.rec has m && principal.rec.m < principal.rec.n", "principal has boss && principal.boss has boss && principal.boss.boss has boss && principal.boss.boss.boss.n < 1",
		"context has rec && context.rec.n < 1", `User::"a" has m && User::"a".m < 1`, "resource.owner has m && resource.owner.m < 1", "(if true then {a: 1} else {}) has a && (if true then {a: 1} else {}).a < 1",
		"principal has m && principal has m && principal.m < 3", "context has none && context.none", "context has none && context.none.x < context.none.y", "principal has n && principal.n < 1", "principal has x && principal.n < 1",
	)
	wantType(t, kNum,
		"if principal has m then principal.m else 0", "if principal has m && true then principal.m + 1 else 0", "if principal has m then (if true then 1 else principal.m) else 0", "if principal has m then if principal.m < 1 then principal.m else principal.m else 1", "if principal has m && principal.m < 3 then principal.m else 0",
		"if principal has rec then if principal.rec has m then principal.rec.m else principal.rec.n else 0", "if if principal has m then principal.m < 1 else false then 1 else 0", "{a: if principal has m then principal.m else 0}.a", "if principal has m then {a: principal.m}.a else 0", "if true then if principal has m then principal.m else 1 else 2",
	)
}

// CH4: names that are not known to be there.
func TestNotKnown(t *testing.T) {
	wantWrong(t, api.ErrNone,
		"principal has m || principal.m < 3", "!(principal has m) || principal.m < 3", "!(principal has m) && principal.m < 3", "!!(principal has m) && principal.m < 3", "principal.m < 3 && principal has m", "principal.m < 3 || principal has m", "(principal has m) == true && principal.m < 3", "(principal has m || principal has m) && principal.m < 3", "(principal has m || false) && principal.m < 3", "(false || principal has m) && principal.m < 3", "(true && (principal has m || true)) && principal.m < 3", "[principal has m].contains(true) && principal.m < 3", "{a: principal has m}.a && principal.m < 3",
		"(if true then principal has m else principal has m) && principal.m < 3", "(if principal has m then true else false) && principal.m < 3", "(if principal has m then principal has m else false) && principal.m < 3",
		"if principal has m then 0 else principal.m", "if !(principal has m) then 0 else principal.m", "if !(principal has m) then principal.m else 0", "if principal has m || true then principal.m else 0", "(if principal has m then 1 else 0) + principal.m", "if (principal.m < 1) then principal has m else true", "if true then principal has m else principal.m < 1", "if true then principal has m && true else principal.m < 1",
		"resource has m && principal.m < 3", "principal has n && principal.m < 3", "principal has mm && principal.m < 3", "context has m && principal.m < 3", "principal has m && resource.owner.m < 3", "resource.owner has m && principal.m < 3", `User::"a" has m && User::"b".m < 3`, `User::"a" has m && principal.m < 3`, "{m: 1} has m && principal.m < 3", "principal has m && principal.boss == principal", "principal has boss && principal.boss.m < 1", "principal has boss && principal.boss has m && principal.m < 1", "principal has rec && principal.rec.m < 1", "principal.rec has m && principal has rec", "context has rec && principal.rec.n < 1",
		"(principal has m && true) == (principal.m < 3)", "(principal has m && true) || principal.m < 3", "[principal has m, principal.m < 3]", "{a: principal has m, b: principal.m}", "(principal has m) == (principal.m < 3)", "(principal has m && principal.m < 1) || principal.m < 2", "((principal has m && true) == true) && principal.m < 2",
		"principal has x && principal.x < 1", "action has n && action.n == 1", `X::"a" has n && X::"a".n == 1`, "{} has a && {}.a == 1", "if context has x then context.x else 1",
		"(if true then {a: 1} else {}) has a && (if false then {a: 1} else {}).a < 1",
	)
	wantWrong(t, api.ErrType, "1 has a && 1.a", "context.any has a && context.any.a", "[] has a && [].a == 1", "principal has m && principal.m.m == 1", "principal has m && principal.m")
	// Where there is no such kind, nothing that is known helps.
	got, err := check.Type(house(), "Ghost", "see", "Doc", parsed(t, "principal has m && principal.m < 1"))
	wantTold(t, "what is known of no kind", got, err, nil, api.ErrNone)
}

// fields are those of a record's type of so many nodes, an odd number, with
// names that begin so.
func fields(field func(string, nodes) nodes, begin string, size int) []nodes {
	var all []nodes
	for i := range size / 2 {
		all = append(all, field(fmt.Sprintf("%s%03d", begin, i), kNum))
	}
	return all
}

// odd and even are types of records of so many nodes.
func odd(size int) nodes  { return ofRec(fields(must, "a", size)...) }
func even(size int) nodes { return ofRec(must("a", ofSet(odd(size-3)))) }

// others is one of so many nodes, an odd number, with other names.
func others(size int) nodes { return ofRec(fields(must, "b", size)...) }

// wide is a schema with long types: one in the record of principal, and the
// other one in that of resource, both by the name n.
func wide(who, what nodes) api.Schema {
	return api.Schema{
		Kinds: []api.Kind{{Name: "A", Attrs: ofRec(must("n", who))}, {Name: "B", Attrs: ofRec(must("n", what))}},
		Acts:  []api.Act{{Id: "a", Who: []string{"A"}, What: []string{"B"}, Context: ofRec()}},
	}
}

// wantWide fails unless a line has that type, or that error, in such a schema.
func wantWide(t *testing.T, who, what nodes, line string, want nodes, wrong api.Errno) {
	t.Helper()
	got, err := check.Type(wide(who, what), "A", "a", "B", parsed(t, line))
	wantTold(t, fmt.Sprintf("%s of %d and %d", line, len(who), len(what)), got, err, want, wrong)
}

// CH2: types of as many nodes as may be, and of one more.
func TestFull(t *testing.T) {
	wantWide(t, odd(195), ofRec(), "principal.n", odd(195), api.OK)
	wantWide(t, odd(195), ofRec(), "[[[[[principal.n]]]]]", ofSet(ofSet(ofSet(ofSet(ofSet(odd(195)))))), api.OK)
	wantWide(t, odd(195), ofRec(), "[[[[[[principal.n]]]]]]", nil, api.ErrFull)
	wantWide(t, odd(195), ofRec(), "[[[[[[principal.n]]]]]] == []", nil, api.ErrFull)
	wantWide(t, even(194), ofRec(), "{a: {a: {a: principal.n}}}", ofRec(must("a", ofRec(must("a", ofRec(must("a", even(194))))))), api.OK)
	wantWide(t, odd(195), ofRec(), "{a: {a: {a: principal.n}}}", nil, api.ErrFull)
	wantWide(t, odd(195), ofRec(), "{a: {a: {a: principal.n}}}.a", nil, api.ErrFull)
	wantWide(t, even(196), ofRec(), "{a: principal.n, b: 1}", ofRec(must("a", even(196)), must("b", kNum)), api.OK)
	wantWide(t, odd(195), ofRec(), "{a: principal.n, b: 1, c: 1}", nil, api.ErrFull)
	wantWide(t, odd(99), others(101), "[principal.n, resource.n]", ofSet(ofRec(append(fields(maybe, "a", 99), fields(maybe, "b", 101)...)...)), api.OK)
	wantWide(t, even(100), others(101), "[principal.n, resource.n]", nil, api.ErrFull)
	wantWide(t, even(100), others(101), "if true then principal.n else resource.n", ofRec(append([]nodes{maybe("a", ofSet(odd(97)))}, fields(maybe, "b", 101)...)...), api.OK)
	wantWide(t, odd(101), others(101), "if true then principal.n else resource.n", nil, api.ErrFull)
	wantWide(t, odd(101), others(101), "[principal.n, resource.n]", nil, api.ErrFull)
	wantWide(t, odd(195), odd(195), "[principal.n, resource.n]", ofSet(odd(195)), api.OK)
	wantWide(t, odd(195), odd(195), "if true then principal.n else resource.n", odd(195), api.OK)
}

// CH2, CH3: that a type is full is told behind errors of parts, and ahead of
// what the chapter names later. Joins are taken one by one.
func TestOrderOfFull(t *testing.T) {
	who, what := odd(101), others(101)
	wantWide(t, who, what, "[principal.n, resource.n, x]", nil, api.ErrNone)
	wantWide(t, who, what, "[principal.n, resource.n, !1]", nil, api.ErrType)
	wantWide(t, who, what, "{a: principal.n, b: resource.n, c: x}", nil, api.ErrNone)
	wantWide(t, who, what, "{a: principal.n, b: resource.n, c: !1}", nil, api.ErrType)
	wantWide(t, who, what, "if x then principal.n else resource.n", nil, api.ErrNone)
	wantWide(t, who, what, "if !1 then principal.n else resource.n", nil, api.ErrType)
	wantWide(t, who, what, "if 1 then principal.n else resource.n", nil, api.ErrFull)
	wantWide(t, who, what, "(if true then principal.n else resource.n) + x", nil, api.ErrFull)
	wantWide(t, who, what, "x + (if true then principal.n else resource.n)", nil, api.ErrNone)
	wantWide(t, who, what, "[principal.n, resource.n, 1]", nil, api.ErrFull)
	wantWide(t, who, what, "[principal.n, 1, resource.n]", ofSet(kAny), api.OK)
	wantWide(t, who, what, "[1, principal.n, resource.n]", ofSet(kAny), api.OK)
}

// Expressions of as many nodes as may be, deep and wide.
func TestLargest(t *testing.T) {
	yes, one, me := nodes{{Op: api.Bool, N: 1}}, nodes{{Op: api.Num, N: 1}}, nodes{{Op: api.Var, S: "principal"}}
	hasM, getM := append(nodes{{Op: api.Has, S: "m"}}, me...), append(nodes{{Op: api.Get, S: "m"}}, me...)
	less := slices.Concat(nodes{{Op: api.Lt}}, getM, one)
	deep := func(n api.Node, end nodes) nodes { return append(slices.Repeat(nodes{n}, 200-len(end)), end...) }
	chain := slices.Concat(slices.Repeat(append(nodes{{Op: api.And}}, hasM...), 65), less)
	var set nodes
	for range 198 {
		set = append(set, api.Node{Op: api.KSet})
	}
	for what, c := range map[string]struct {
		e, want nodes
		wrong   api.Errno
	}{
		"199 Nots":       {deep(api.Node{Op: api.Not}, yes), kBool, api.OK},
		"199 Nots of 1":  {deep(api.Node{Op: api.Not}, one), nil, api.ErrType},
		"199 Negs":       {deep(api.Node{Op: api.Neg}, one), kNum, api.OK},
		"199 Sets":       {deep(api.Node{Op: api.Set, N: 1}, one), append(append(set, api.Node{Op: api.KSet}), kNum...), api.OK},
		"200 Sets":       {deep(api.Node{Op: api.Set, N: 1}, nodes{{Op: api.Set}}), nil, api.ErrFull},
		"199 Gets":       {deep(api.Node{Op: api.Get, S: "n"}, me), nil, api.ErrType},
		"198 Gets":       {deep(api.Node{Op: api.Get, S: "x"}, parsed(t, "context.void")), kNone, api.OK},
		"a Set of 199":   {append(nodes{{Op: api.Set, N: 199}}, slices.Repeat(one, 199)...), ofSet(kNum), api.OK},
		"Sets of 198":    {slices.Concat(nodes{{Op: api.Set, N: 198}}, slices.Repeat(one, 197), nodes{{Op: api.Set, N: 1}}, yes), ofSet(kAny), api.OK},
		"65 Ands":        {chain, kBool, api.OK},
		"65 Ands, not m": {slices.Concat(slices.Repeat(append(nodes{{Op: api.And}}, append(nodes{{Op: api.Has, S: "n"}}, me...)...), 65), less), nil, api.ErrNone},
		"Ands, before":   {slices.Concat(slices.Repeat(nodes{{Op: api.And}}, 65), slices.Repeat(hasM, 65), less), kBool, api.OK},
	} {
		if len(c.e) > 200 {
			t.Fatalf("%s: %d nodes", what, len(c.e))
		}
		got, err := check.Type(house(), "User", "see", "Doc", c.e)
		wantTold(t, what, got, err, c.want, c.wrong)
	}
}

// spare is a list with something behind its length that would be wrong in it.
func spare[T any](list []T, wrong T) []T {
	return append(slices.Clone(list), slices.Repeat([]T{wrong}, 9)...)[:len(list)]
}

// spareHouse is house with something wrong behind each of its lists.
func spareHouse() api.Schema {
	s, junk := house(), api.Node{Op: api.KNum, N: 7, S: "junk", T: "junk"}
	for i, k := range s.Kinds {
		s.Kinds[i].Up, s.Kinds[i].Attrs = spare(k.Up, "1"), spare(k.Attrs, junk)
	}
	for i, a := range s.Acts {
		s.Acts[i].Who, s.Acts[i].What = spare(a.Who, "X"), spare(a.What, "X")
		s.Acts[i].Context = spare(a.Context, junk)
	}
	s.Kinds, s.Acts = spare(s.Kinds, s.Kinds[0]), spare(s.Acts, api.Act{Id: "x"})
	return s
}

// allOf shows a schema, and what lies behind its lists.
func allOf(s api.Schema) string {
	text := ""
	for _, k := range s.Kinds[:cap(s.Kinds)] {
		text += fmt.Sprint(k.Name, len(k.Up), k.Up[:cap(k.Up)], len(k.Attrs), k.Attrs[:cap(k.Attrs)])
	}
	for _, a := range s.Acts[:cap(s.Acts)] {
		text += fmt.Sprint(a.Id, len(a.Who), a.Who[:cap(a.Who)], len(a.What), a.What[:cap(a.What)], len(a.Context), a.Context[:cap(a.Context)])
	}
	return text
}

// P2, P4: what is handed in is neither written into nor shared, nor is what
// lies behind its length read or written; nothing is kept from call to call.
func TestMemory(t *testing.T) {
	s, junk := spareHouse(), api.Node{Op: api.Not, N: 3, S: "junk", T: "junk"}
	before := allOf(s)
	for _, line := range []string{"context", "principal", "principal.tags", "context.any", "{a: context}", "[context]", "[principal.tags]", "if true then context else context", "{a: context, b: principal.tags}.a", "if true then principal.tags else [\"a\"]", "principal has rec && principal.rec has m && principal.rec.m < 1", "if principal has rec then principal.rec else {m: 1, n: 1}", "[[]]", "context.void.x", "1"} {
		e := spare(parsed(t, line), junk)
		got, err := check.Type(s, "User", "see", "Doc", e)
		if err != nil {
			t.Fatalf("Type of %s: %v", line, err)
		}
		want := slices.Clone(got)
		again, _ := check.Type(s, "User", "see", "Doc", e)
		got = got[:cap(got)]
		for i := range got {
			got[i] = junk
		}
		if !slices.Equal(again, want) {
			t.Errorf("Type of %s: two answers share memory", line)
		}
		if allOf(s) != before {
			t.Fatalf("Type of %s: the schema is changed", line)
		}
		if !slices.Equal(e[:len(e)+9], append(parsed(t, line), slices.Repeat(nodes{junk}, 9)...)) {
			t.Errorf("Type of %s: what was handed in is changed", line)
		}
	}
	s.Acts[0].Who[0], s.Acts[0].Context[2] = "Changed", api.Node{Op: api.KText}
	_, err := check.Type(s, "User", "see", "Doc", parsed(t, "1"))
	wantTold(t, "1, later on", nil, err, nil, api.ErrType)
	got, err := check.Type(s, "Changed", "see", "Doc", parsed(t, "context.any"))
	wantTold(t, "context.any, later on", got, err, kText, api.OK)
}

// P1, P3: none panics, at rubbish of all kinds; and each error is one that the
// document names.
func TestRubbish(t *testing.T) {
	lists := []nodes{nil, {}, {{}}, {{Op: -1}}, {{Op: math.MaxInt}}, {{Op: math.MinInt}}, {{Op: api.Set, N: math.MaxInt}}, {{Op: api.Set, N: -1}}, {{Op: api.Rec, N: math.MaxInt}}, {{Op: api.Rec, N: 1}}, {{Op: api.Field, S: "a"}, {Op: api.Num}}, {{Op: api.KRec, N: math.MaxInt}}, {{Op: api.KRec, N: math.MinInt}}, {{Op: api.KRec}}, {{Op: api.KSet}}, {{Op: api.Get, S: "a"}}, {{Op: api.If}, {Op: api.Bool}}, {{Op: api.Var}}, {{Op: api.Var, S: "if"}}, {{Op: api.Var, S: "context"}}, make(nodes, 300), slices.Repeat(nodes{{Op: api.Not}}, 200), slices.Repeat(nodes{{Op: api.KSet}}, 200)}
	texts := []string{"", "A", "\x00\xff", strings.Repeat("a", 1000), "see"}
	for _, attrs := range lists {
		for _, e := range lists {
			for _, s := range texts {
				sch := api.Schema{Kinds: []api.Kind{{Name: s, Attrs: attrs}}, Acts: []api.Act{{Id: s, Who: []string{"A"}, What: []string{"A"}, Context: attrs}}}
				for _, other := range []api.Schema{sch, {Acts: sch.Acts}, house(), {}} {
					got, err := check.Type(other, s, s, s, e)
					if told := plain.Told(err); told < 0 || told > api.ErrLost || err != nil && (got != nil || told == api.OK) || err == nil && got == nil {
						t.Fatalf("Type of %s in %s: got %s and %v", shown(e), shown(other), shown(got), err)
					}
				}
			}
		}
	}
}
