package eval_test

import (
	"fmt"
	"math"
	"math/rand/v2"
	"slices"
	"strings"
	"testing"

	"wicketgate/api"
	"wicketgate/eval"
	"wicketgate/phrase"
	"wicketgate/plain"
	"wicketgate/val"
	"wicketgate/word"
)

// wantError fails unless err is the error of that number.
func wantError(t *testing.T, call string, err error, want api.Errno) {
	t.Helper()
	if got := plain.Told(err); got != want {
		t.Errorf("%s: error %v, want %v", call, got, want)
	}
	if err != nil && want == api.OK {
		t.Errorf("%s: an error that is not nil, where nothing is wrong", call)
	}
}

// wantValue fails unless Value tells those nodes and that error.
func wantValue(t *testing.T, what string, es []api.Entity, q api.Request, e, want nodes, wrong api.Errno) {
	t.Helper()
	got, err := eval.Value(es, q, e)
	wantError(t, "Value of "+what, err, wrong)
	if wrong != api.OK {
		want = nil
	}
	if !slices.Equal(got, want) || wrong != api.OK && got != nil {
		t.Errorf("Value of %s: got %s, want %s", what, shown(got), shown(want))
	}
}

// shown has no more of a thing than a message can bear.
func shown(x any) string {
	s := fmt.Sprintf("%+q", fmt.Sprint(x))
	if len(s) > 300 {
		s = s[:300] + "..."
	}
	return s
}

// parsed tells the expression of a line.
func parsed(t *testing.T, line string) nodes {
	t.Helper()
	ts, _, err := word.Read(line)
	if err != nil {
		t.Fatalf("Read of %q: %v", line, err)
	}
	e, _, err := phrase.Parse(ts)
	if err != nil {
		t.Fatalf("Parse of %q: %v", line, err)
	}
	return e
}

func uid(s, id string) api.Uid { return api.Uid{Type: s, Id: id} }

// smallWorld is one in which ann is below staff and lot, staff below all, which
// is in the store, and below root, which is not, as lot is not.
func smallWorld() world {
	return world{
		order: []api.Uid{uid("User", "ann"), uid("Group", "staff"), uid("Group", "all"), uid("User", "bob")},
		ones: map[api.Uid]one{
			uid("User", "ann"): {
				[]api.Uid{uid("Group", "staff"), uid("Group", "lot")},
				record{"age": 7, "name": "ann", "boss": uid("User", "bob"), "lost": uid("User", "eve"), "rec": record{"age": 8}, "tags": groupOf("a", "b"), "ok": true},
			},
			uid("Group", "staff"): {[]api.Uid{uid("Group", "all")}, record{}},
			uid("Group", "all"):   {[]api.Uid{uid("Group", "root")}, record{"in": 1}},
			uid("User", "bob"):    {nil, record{"age": -1, "boss": uid("User", "ann")}},
		},
		who: uid("User", "ann"), act: uid("Action", "see"), what: uid("Page", "home"),
		context: record{"groups": groupOf(uid("Group", "lot"), uid("Group", "root")), "mixed": groupOf(uid("User", "ann"), record{}), "n": 5, "who": uid("User", "ann")},
	}
}

// told is what a line's value is: another line, or the name of an error.
type told struct{ line, want string }

// wantLines holds Value to what is told of lines in the small world.
func wantLines(t *testing.T, cases []told) {
	t.Helper()
	w := smallWorld()
	es, q := w.store(), w.request()
	for _, c := range cases {
		e := parsed(t, c.line)
		wrong := api.OK
		for n := api.ErrSyntax; n <= api.ErrLost; n++ {
			if n.Error() == c.want {
				wrong = n
			}
		}
		var want nodes
		if wrong == api.OK {
			want = parsed(t, c.want)
		}
		wantValue(t, c.line, es, q, e, want, wrong)
	}
}

// EV2: what has no parts, sets, records and names.
func TestValueOfThings(t *testing.T) {
	wantLines(t, []told{
		{"true", "true"}, {"false", "false"}, {"0", "0"}, {"-9223372036854775808", "-9223372036854775808"}, {`""`, `""`}, {`"a*"`, `"a*"`},
		{`User::"ann"`, `User::"ann"`}, {`User::"eve"`, `User::"eve"`},
		{"[]", "[]"}, {"[2, 1, 2, 1]", "[1, 2]"}, {"[[2, 1], [1, 2]]", "[[1, 2]]"}, {"[1 + 1, 2]", "[2]"}, {`["b", 1, "a", true, [], {}, A::"a"]`, `[true, 1, "a", "b", A::"a", [], {}]`},
		{"{}", "{}"}, {"{a: 1 + 1, b: {c: principal}}", `{a: 2, b: {c: User::"ann"}}`}, {"{a: [2, 1]}", "{a: [1, 2]}"},
		{"principal", `User::"ann"`}, {"action", `Action::"see"`}, {"resource", `Page::"home"`},
		{"context", `{groups: [Group::"lot", Group::"root"], mixed: [User::"ann", {}], n: 5, who: User::"ann"}`},
		{"x", "ErrNone"}, {"Principal", "ErrNone"}, {"ann", "ErrNone"}, {"age", "ErrNone"}, {"?principal", "ErrNone"}, {"?resource", "ErrNone"}, {"?context", "ErrNone"}, {"principals", "ErrNone"},
		{"[1, x]", "ErrNone"}, {"{a: 1, b: x}", "ErrNone"}, {"[x]", "ErrNone"}, {"{a: {b: [x]}}", "ErrNone"},
	})
}

// EV2: numbers.
func TestValueOfNumbers(t *testing.T) {
	wantLines(t, []told{
		{"1 + 2", "3"}, {"1 - 2", "-1"}, {"3 * 2", "6"}, {"-principal.age", "-7"}, {"-context.n", "-5"},
		{"9223372036854775807 + 1", "ErrOver"}, {"-9223372036854775808 - 1", "ErrOver"}, {"9223372036854775807 * 2", "ErrOver"}, {"-(-9223372036854775808)", "ErrOver"},
		{"-9223372036854775808 - -9223372036854775808", "0"}, {"0 - -9223372036854775808", "ErrOver"}, {"-(9223372036854775807)", "-9223372036854775807"},
		{"1 < 2", "true"}, {"2 < 2", "false"}, {"3 < 2", "false"}, {"1 <= 2", "true"}, {"2 <= 2", "true"}, {"3 <= 2", "false"},
		{"-9223372036854775808 < 9223372036854775807", "true"}, {"9223372036854775807 <= -9223372036854775808", "false"},
		{"1 < true", "ErrType"}, {"true < 1", "ErrType"}, {`"a" < "b"`, "ErrType"}, {"1 <= []", "ErrType"}, {"{} <= 1", "ErrType"},
		{`1 + "a"`, "ErrType"}, {`"a" + "b"`, "ErrType"}, {"[1] - [1]", "ErrType"}, {"principal * 2", "ErrType"}, {"-true", "ErrType"}, {`-"1"`, "ErrType"},
	})
}

// EV2: what is the same.
func TestValueOfEq(t *testing.T) {
	wantLines(t, []told{
		{"1 == 1", "true"}, {"1 == 2", "false"}, {"1 == true", "false"}, {"0 == false", "false"}, {`"1" == 1`, "false"}, {"[] == {}", "false"}, {"[] == []", "true"},
		{"[1, 2] == [2, 1, 1]", "true"}, {"[1] == [1, 2]", "false"}, {"[1] == [[1]]", "false"}, {"{a: 1} == {a: 1}", "true"}, {"{a: 1} == {b: 1}", "false"}, {"{a: 1} == {a: 1, b: 1}", "false"},
		{`principal == User::"ann"`, "true"}, {`principal == Group::"ann"`, "false"}, {`principal == User::"anna"`, "false"}, {"principal == context.who", "true"}, {"principal.boss.boss == principal", "true"},
		{`principal == "ann"`, "false"}, {"!(1 == 1)", "false"}, {"(1 == 1) == true", "true"}, {"x == x", "ErrNone"}, {"1 == x", "ErrNone"},
	})
}

// EV2: who is below whom.
func TestValueOfIn(t *testing.T) {
	wantLines(t, []told{
		{"principal in principal", "true"}, {`principal in Group::"staff"`, "true"}, {`principal in Group::"lot"`, "true"}, {`principal in Group::"all"`, "true"}, {`principal in Group::"root"`, "true"},
		{`Group::"staff" in principal`, "false"}, {`principal in User::"bob"`, "false"}, {`principal in User::"staff"`, "false"}, {`Group::"all" in Group::"root"`, "true"}, {`Group::"root" in Group::"all"`, "false"},
		{"resource in resource", "true"}, {`resource in Group::"root"`, "false"}, {`Group::"lot" in Group::"root"`, "false"}, {`Group::"lot" in Group::"lot"`, "true"},
		{"principal in []", "false"}, {"resource in []", "false"}, {"principal in [resource]", "false"}, {`principal in [resource, Group::"root"]`, "true"}, {`principal in [Group::"all", resource]`, "true"}, {"principal in [principal]", "true"},
		{"principal in context.groups", "true"}, {"resource in context.groups", "false"}, {`Group::"lot" in context.groups`, "true"},
		{"principal in 1", "ErrType"}, {"principal in true", "ErrType"}, {`principal in "ann"`, "ErrType"}, {"principal in context", "ErrType"}, {"principal in {}", "ErrType"},
		{"1 in principal", "ErrType"}, {"1 in [principal]", "ErrType"}, {"1 in []", "ErrType"}, {"1 in [1]", "ErrType"}, {"[principal] in principal", "ErrType"}, {"{} in principal", "ErrType"}, {"[] in []", "ErrType"},
		{"principal in [1]", "ErrType"}, {"principal in [1, principal]", "ErrType"}, {"principal in [principal, []]", "ErrType"}, {"principal in [principal, {}]", "ErrType"}, {"principal in context.mixed", "ErrType"}, {"principal in [[principal]]", "ErrType"},
	})
}

// EV2: what a record has, and that of an entity.
func TestValueOfHasAndGet(t *testing.T) {
	wantLines(t, []told{
		{"principal has age", "true"}, {"principal has rec", "true"}, {"principal has ag", "false"}, {"principal has ages", "false"}, {"principal has in", "false"}, {"principal.rec has age", "true"}, {"principal.rec has name", "false"},
		{"resource has age", "false"}, {"principal.lost has age", "false"}, {`Group::"root" has in`, "false"}, {`Group::"all" has in`, "true"}, {`Group::"staff" has in`, "false"},
		{"{} has a", "false"}, {"{a: 1} has a", "true"}, {"{a: {b: 1}} has b", "false"}, {"context has n", "true"}, {"context has age", "false"},
		{"1 has a", "ErrType"}, {"true has a", "ErrType"}, {`"a" has a`, "ErrType"}, {"[] has a", "ErrType"}, {"[{a: 1}] has a", "ErrType"}, {"[principal] has age", "ErrType"}, {"x has a", "ErrNone"}, {"resource.a has a", "ErrLost"}, {"context.a has a", "ErrNone"},
		{"principal.age", "7"}, {"principal.rec", "{age: 8}"}, {"principal.rec.age", "8"}, {"principal.boss.age", "-1"}, {"principal.boss.boss.name", `"ann"`}, {"principal.tags", `["a", "b"]`}, {`Group::"all".in`, "1"}, {"context.who.age", "7"}, {"{a: 1, b: 2}.b", "2"},
		{"principal.in", "ErrNone"}, {"principal.ag", "ErrNone"}, {"principal.rec.name", "ErrNone"}, {`Group::"staff".in`, "ErrNone"}, {"context.age", "ErrNone"}, {"{}.a", "ErrNone"}, {"{a: 1}.b", "ErrNone"},
		{"resource.age", "ErrLost"}, {"principal.lost.age", "ErrLost"}, {`Group::"root".in`, "ErrLost"}, {`User::"all".in`, "ErrLost"}, {"action.a", "ErrLost"},
		{"1.a", "ErrType"}, {"true.a", "ErrType"}, {`"a".a`, "ErrType"}, {"[].a", "ErrType"}, {"[{a: 1}].a", "ErrType"}, {"principal.age.a", "ErrType"}, {"principal.tags.a", "ErrType"}, {"x.a", "ErrNone"},
	})
}

// EV2: patterns, types and sets.
func TestValueOfOthers(t *testing.T) {
	wantLines(t, []told{
		{`"abc" like "a*c"`, "true"}, {`"abcd" like "a*c"`, "false"}, {`"a*c" like "a\\*c"`, "true"}, {`"abc" like "a\\*c"`, "false"}, {`"" like ""`, "true"}, {`"" like "*"`, "true"}, {`principal.name like "a*"`, "true"}, {`"a*" like "a"`, "false"},
		{`1 like "1"`, "ErrType"}, {`true like "*"`, "ErrType"}, {`principal like "*"`, "ErrType"}, {`["a"] like "*"`, "ErrType"}, {`x like "*"`, "ErrNone"},
		{"principal is User", "true"}, {"principal is Group", "false"}, {"principal is Use", "false"}, {"principal is ann", "false"}, {"resource is Page", "true"}, {"action is Action", "true"}, {`User::"nobody" is User`, "true"},
		{"1 is User", "ErrType"}, {`"User" is User`, "ErrType"}, {"[principal] is User", "ErrType"}, {"context is User", "ErrType"}, {"x is User", "ErrNone"},
		{"[1, 2].contains(2)", "true"}, {"[1, 2].contains(3)", "false"}, {"[].contains([])", "false"}, {"[[]].contains([])", "true"}, {"[1, 2].contains([2])", "false"}, {`principal.tags.contains("a")`, "true"}, {"[principal].contains(context.who)", "true"},
		{"[1, 2].containsAll([2])", "true"}, {"[2].containsAll([1, 2])", "false"}, {"[1, 2].containsAll([2, 3])", "false"}, {"[].containsAll([])", "true"}, {"[1].containsAll([])", "true"},
		{"[1, 2].containsAny([2, 3])", "true"}, {"[1, 2].containsAny([3])", "false"}, {"[1].containsAny([])", "false"}, {"[].containsAny([])", "false"},
		{"1.contains(1)", "ErrType"}, {"{a: 1}.contains(1)", "ErrType"}, {"principal.contains(principal)", "ErrType"}, {"[1].containsAll(1)", "ErrType"}, {"1.containsAll([1])", "ErrType"}, {"[1].containsAny(1)", "ErrType"}, {"1.containsAny([1])", "ErrType"}, {"[1].containsAny({a: 1})", "ErrType"}, {"{}.containsAll({})", "ErrType"},
		{"!true", "false"}, {"!false", "true"}, {"!!true", "true"}, {"!principal.ok", "false"}, {"!1", "ErrType"}, {"!0", "ErrType"}, {"![]", "ErrType"}, {"!x", "ErrNone"},
	})
}

// EV2, EV3: the first error of a part is told; what a part's value must be is
// asked when all parts have values.
func TestValueErrorsInOrder(t *testing.T) {
	wantLines(t, []told{
		{"true + x", "ErrNone"}, {"x + true", "ErrNone"}, {"true + resource.a", "ErrLost"}, {"x + resource.a", "ErrNone"}, {"resource.a + x", "ErrLost"}, {"!1 + x", "ErrType"}, {"x + !1", "ErrNone"}, {"-true + resource.a", "ErrType"},
		{"true < x", "ErrNone"}, {"true <= resource.a", "ErrLost"}, {"true - x", "ErrNone"}, {"true * x", "ErrNone"}, {"(9223372036854775807 + 1) * x", "ErrOver"}, {"x * (9223372036854775807 + 1)", "ErrNone"},
		{"1 in x", "ErrNone"}, {"1 in [1, x]", "ErrNone"}, {"1 in resource.a", "ErrLost"}, {"x in [1]", "ErrNone"}, {"(1 in 1) in x", "ErrType"},
		{"1.contains(x)", "ErrNone"}, {"1.containsAll(x)", "ErrNone"}, {"1.containsAny(resource.a)", "ErrLost"}, {"x.contains(!1)", "ErrNone"}, {"(!1).contains(x)", "ErrType"},
		{"x == !1", "ErrNone"}, {"!1 == x", "ErrType"}, {"[!1, x]", "ErrType"}, {"[x, !1]", "ErrNone"}, {"[1, resource.a, x]", "ErrLost"}, {"{a: !1, b: x}", "ErrType"}, {"{a: x, b: !1}", "ErrNone"}, {"{a: 1, b: resource.a, c: x}", "ErrLost"},
		{"-[x]", "ErrNone"}, {"![resource.a]", "ErrLost"}, {"[x] has a", "ErrNone"}, {"[x].a", "ErrNone"}, {`[x] like "a"`, "ErrNone"}, {"[x] is User", "ErrNone"},
	})
}

// EV4: And, Or and If ask for no more than they need.
func TestValueOfChoices(t *testing.T) {
	wantLines(t, []told{
		{"true && true", "true"}, {"true && false", "false"}, {"false && true", "false"}, {"false && false", "false"},
		{"true || true", "true"}, {"true || false", "true"}, {"false || true", "true"}, {"false || false", "false"},
		{"false && 1", "false"}, {"false && x", "false"}, {"false && resource.a", "false"}, {"true && 1", "ErrType"}, {"true && x", "ErrNone"}, {"true && resource.a", "ErrLost"}, {"1 && x", "ErrType"}, {"0 && true", "ErrType"}, {"x && !1", "ErrNone"}, {"1 && 1", "ErrType"}, {"[] && false", "ErrType"},
		{"true || 1", "true"}, {"true || x", "true"}, {"true || resource.a", "true"}, {"false || 1", "ErrType"}, {"false || x", "ErrNone"}, {"false || resource.a", "ErrLost"}, {"1 || x", "ErrType"}, {"1 || true", "ErrType"}, {"x || !1", "ErrNone"}, {"0 || 0", "ErrType"}, {"{} || true", "ErrType"},
		{"if true then 1 else 2", "1"}, {"if false then 1 else 2", "2"}, {"if true then 1 else x", "1"}, {"if false then x else 2", "2"}, {"if true then x else 2", "ErrNone"}, {"if false then 1 else resource.a", "ErrLost"},
		{"if 1 then x else resource.a", "ErrType"}, {"if x then 1 else 2", "ErrNone"}, {"if principal then 1 else 2", "ErrType"}, {`if true then [2, 1] else {}`, "[1, 2]"}, {"if false then 1 else context.who", `User::"ann"`},
		{"false && x || true", "true"}, {"(true || x) && false", "false"}, {"[false && x, 1, true || x, 2]", "[false, true, 1, 2]"}, {"{a: if true then 1 else [x, x], b: false && {a: x}.a, c: 3}", "{a: 1, b: false, c: 3}"},
		{"(if false then [x, {a: x}] else 1) + 2", "3"}, {"(if true then 1 else if x then x else x) + 2", "3"}, {"if false && x then x else 1 < 2", "true"}, {"principal has a && principal.a < 1", "false"}, {"resource has a && resource.a", "false"}, {"principal has age && principal.age < 8", "true"},
		{"true && (false && x)", "false"}, {"true && (false || 1)", "ErrType"}, {"if if true then false else x then x else 3", "3"},
	})
}

// within is an expression in so many sets, each in the next.
func within(count int, x expr) expr {
	for range count {
		x = set(x)
	}
	return x
}

// EV2: sets and records of too many nodes; what is in a set twice counts once.
func TestValueLengths(t *testing.T) {
	w := smallWorld()
	for _, n := range []int{195, 196, 197, 198, 199, 200} {
		many := groupOf()
		for i := range n - 3 {
			many[look(i)] = i
		}
		w.context = record{"g": many}
		if got := len(w.request().Context); got != n {
			t.Fatalf("a context of %d nodes, want %d", got, n)
		}
		c, g := named("context"), with(api.Get, "g", named("context"))
		for _, x := range []expr{
			c, g, set(c), set(g), set(set(c)), set(c, c), set(num(1), c), set(slices.Repeat([]expr{c}, api.MaxNodes-1)...),
			rec(field("a", c)), rec(field("a", g)), rec(field("a", num(1)), field("b", g)), with(api.Has, "a", rec(field("a", set(c)))),
			of(api.Eq, within(4, c), named("x")), of(api.Eq, named("x"), within(4, c)), of(api.Not, within(6, c)), of(api.And, truth(0), within(6, c)),
			set(set(), of(api.Add, within(6, c), named("x"))), set(set(), of(api.Add, named("x"), within(6, c))),
		} {
			want, wrong := w.value(x)
			var l nodes
			if wrong == api.OK {
				l = listed(want)
			}
			wantValue(t, shown(x), w.store(), w.request(), x.list(), l, wrong)
		}
	}
	nots := append(slices.Repeat(nodes{{Op: api.Not}}, api.MaxNodes-1), api.Node{Op: api.Bool})
	wantValue(t, "a deep one", nil, w.request(), nots, nodes{{Op: api.Bool, N: 1}}, api.OK)
	ands := append(slices.Repeat(nodes{{Op: api.And}}, 99), slices.Repeat(nodes{{Op: api.Bool, N: 1}}, 100)...)
	wantValue(t, "a deep And", nil, w.request(), ands, nodes{{Op: api.Bool, N: 1}}, api.OK)
}

// requests are wrong ones, with what is told of them.
func requests() map[api.Errno][]func(q *api.Request) {
	long, full := strings.Repeat("a", api.MaxName+1), strings.Repeat("a", api.MaxText+1)
	return map[api.Errno][]func(q *api.Request){
		api.ErrSyntax: {
			func(q *api.Request) { q.Who = api.Uid{} }, func(q *api.Request) { q.Who.Type = "a b" }, func(q *api.Request) { q.Who.Id = "\n" },
			func(q *api.Request) { q.Act.Type = "" }, func(q *api.Request) { q.Act.Id = "\x7f" }, func(q *api.Request) { q.What.Type = "9" }, func(q *api.Request) { q.What.Id = "\u00e9" },
			func(q *api.Request) { q.Context = nil }, func(q *api.Request) { q.Context = nodes{{}} }, func(q *api.Request) { q.Context = nodes{{Op: api.Rec, N: 1}} },
			func(q *api.Request) { q.Context = nodes{{Op: api.Rec}, {Op: api.Rec}} }, func(q *api.Request) { q.Context = nodes{{Op: api.Var, S: "context"}} },
		},
		api.ErrFull: {
			func(q *api.Request) { q.Who.Type = long }, func(q *api.Request) { q.Act.Id = full }, func(q *api.Request) { q.What.Type = long }, func(q *api.Request) { q.Who.Id = full },
			func(q *api.Request) { q.Context = make(nodes, api.MaxNodes+1) },
		},
		api.ErrType: {
			func(q *api.Request) { q.Context = nodes{{Op: api.Set}} }, func(q *api.Request) { q.Context = nodes{{Op: api.Num}} }, func(q *api.Request) { q.Context = nodes{{Op: api.Ent, S: "A"}} }, func(q *api.Request) { q.Context = nodes{{Op: api.Bool}} }, func(q *api.Request) { q.Context = nodes{{Op: api.Text}} },
		},
	}
}

// EV1: what a request must be.
func TestAsk(t *testing.T) {
	for _, q := range []api.Request{
		smallWorld().request(),
		{Who: uid("A", ""), Act: uid("A", ""), What: uid("A", ""), Context: nodes{{Op: api.Rec}}},
		{Who: uid(strings.Repeat("a", api.MaxName), strings.Repeat("\"", api.MaxText)), Act: uid("if", "~"), What: uid("_", " "), Context: nodes{{Op: api.Rec, N: 1}, {Op: api.Field, S: "a"}, {Op: api.Num}}},
	} {
		wantError(t, "Ask of "+shown(q), eval.Ask(q), api.OK)
	}
	for want, spoils := range requests() {
		for _, spoil := range spoils {
			q := smallWorld().request()
			spoil(&q)
			wantError(t, "Ask of "+shown(q), eval.Ask(q), want)
			wantValue(t, "1 with "+shown(q), nil, q, num(1).list(), nil, want)
		}
	}
}

// EV1: Who comes ahead of Act, Act of What, What of Context, and that it is a
// value ahead of that it is a Rec.
func TestAskInOrder(t *testing.T) {
	long := strings.Repeat("a", api.MaxName+1)
	wrong := []struct {
		at, what api.Errno
		spoil    func(q *api.Request)
	}{
		{0, api.ErrSyntax, func(q *api.Request) { q.Who = uid("", "") }}, {0, api.ErrFull, func(q *api.Request) { q.Who = uid(long, "\n") }}, {0, api.ErrSyntax, func(q *api.Request) { q.Who = uid("A", "\n") }},
		{1, api.ErrSyntax, func(q *api.Request) { q.Act = uid("", "") }}, {1, api.ErrFull, func(q *api.Request) { q.Act = uid(long, "\n") }},
		{2, api.ErrSyntax, func(q *api.Request) { q.What = uid("", "") }}, {2, api.ErrFull, func(q *api.Request) { q.What = uid(long, "\n") }},
		{3, api.ErrSyntax, func(q *api.Request) { q.Context = nil }}, {3, api.ErrFull, func(q *api.Request) { q.Context = make(nodes, 201) }}, {3, api.ErrType, func(q *api.Request) { q.Context = nodes{{Op: api.Set}} }},
	}
	for _, a := range wrong {
		for _, b := range wrong {
			if a.at < b.at {
				q := smallWorld().request()
				b.spoil(&q)
				a.spoil(&q)
				wantError(t, "Ask of "+shown(q), eval.Ask(q), a.what)
			}
		}
	}
}

// EV2: the store's error comes ahead of the request's, and that ahead of the
// expression's, which comes ahead of all that its value tells.
func TestValueChecks(t *testing.T) {
	w := smallWorld()
	es, q := w.store(), w.request()
	one := num(1).list()
	empty := nodes{{Op: api.Rec}}
	badStores := map[api.Errno][]api.Entity{
		api.ErrFull:   make([]api.Entity, api.MaxEnts+1),
		api.ErrSyntax: {{Attrs: empty}},
		api.ErrTwice:  {{Uid: uid("A", "a"), Attrs: empty}, {Uid: uid("A", "a"), Attrs: empty}},
		api.ErrType:   {{Uid: uid("A", "a"), Attrs: nodes{{Op: api.Set}}}},
		api.ErrCycle:  {{Uid: uid("A", "a"), Up: []api.Uid{uid("A", "a")}, Attrs: empty}},
	}
	badExprs := map[api.Errno]nodes{
		api.ErrFull: make(nodes, api.MaxNodes+1), api.ErrSyntax: {{Op: api.Not}}, api.ErrNone: named("x").list(), api.ErrType: of(api.Not, num(1)).list(),
	}
	for wrong, bad := range badStores {
		wantValue(t, "1 in a wrong store", bad, q, one, nil, wrong)
		for worse, spoils := range requests() {
			bq := q
			spoils[0](&bq)
			wantValue(t, "1 in a wrong store", bad, bq, one, nil, wrong)
			wantValue(t, "1 with a wrong request", es, bq, one, nil, worse)
			for _, e := range badExprs {
				wantValue(t, shown(e)+" in a wrong store", bad, bq, e, nil, wrong)
				wantValue(t, shown(e)+" with a wrong request", es, bq, e, nil, worse)
			}
		}
	}
	for wrong, e := range badExprs {
		wantValue(t, shown(e), es, q, e, nil, wrong)
	}
	for _, e := range []nodes{nil, {}, {{}}, {{Op: api.Field, S: "a"}, {Op: api.Num}}, {{Op: api.Num}, {Op: api.Num}}, {{Op: api.Var, S: "if"}}, {{Op: api.Bool, N: 2}}, {{Op: api.And}, {Op: api.Bool}}, {{Op: api.And}, {Op: api.Bool}, {Op: api.Bool, N: 2}}, {{Op: 28}}, {{Op: -1}}, {{Op: api.Set, N: math.MaxInt}}} {
		wantValue(t, shown(e), es, q, e, nil, api.ErrSyntax)
	}
}

// leaves are some of all kinds, and names that stand for some.
func leaves() []expr {
	return []expr{
		truth(0), truth(1), num(0), num(7), num(-1), num(math.MaxInt), num(math.MinInt), text(""), text("ann"), text("a*"),
		ent("User", "ann"), ent("Group", "staff"), ent("Group", "root"), ent("User", "eve"),
		set(), set(num(7)), set(ent("User", "bob"), ent("Group", "lot")), set(ent("User", "ann"), set()), set(ent("Group", "all")), set(num(7), num(0)),
		rec(), rec(field("age", num(7))), rec(field("in", set()), field("n", truth(1))),
		named("principal"), named("action"), named("resource"), named("context"), named("x"), named("?principal"),
		with(api.Get, "age", named("principal")), with(api.Get, "tags", named("principal")), with(api.Get, "age", named("resource")),
	}
}

// ofOnes are all nodes of one part, with some names and texts.
func ofOnes() nodes {
	all := nodes{{Op: api.Not}, {Op: api.Neg}, {Op: api.Like, S: "a*"}, {Op: api.Like, S: `a\*`}, {Op: api.Like, S: ""}, {Op: api.Is, S: "User"}, {Op: api.Is, S: "Action"}}
	for _, s := range []string{"age", "in", "n", "boss", "rec"} {
		all = append(all, api.Node{Op: api.Has, S: s}, api.Node{Op: api.Get, S: s})
	}
	return all
}

// ofTwos are all nodes of two parts.
func ofTwos() []int {
	return []int{api.And, api.Or, api.Eq, api.Lt, api.Le, api.Add, api.Sub, api.Mul, api.In, api.One, api.All, api.Any}
}

// holds tells if Value tells what the chapter says of an expression. It counts
// what was told.
func holds(t *testing.T, w world, es []api.Entity, q api.Request, x expr, count map[api.Errno]int) {
	t.Helper()
	want, wrong := w.value(x)
	var l nodes
	if wrong == api.OK {
		l = listed(want)
	}
	got, err := eval.Value(es, q, x.list())
	if plain.Told(err) != wrong || !slices.Equal(got, l) {
		t.Fatalf("Value of %s: got %s and %v, want %s and %v", shown(x.list()), shown(got), err, shown(l), wrong)
	}
	if err == nil && val.Check(got) != nil {
		t.Fatalf("Value of %s: %s is no value", shown(x.list()), shown(got))
	}
	count[wrong]++
}

// EV2 to EV4: all nodes with all leaves as parts, in all orders.
func TestValueOfAllSmallOnes(t *testing.T) {
	w := smallWorld()
	es, q := w.store(), w.request()
	count := map[api.Errno]int{}
	for _, a := range leaves() {
		holds(t, w, es, q, a, count)
		holds(t, w, es, q, set(a), count)
		holds(t, w, es, q, rec(field("a", a)), count)
		for _, n := range ofOnes() {
			holds(t, w, es, q, expr{n, []expr{a}}, count)
		}
		for _, b := range leaves() {
			holds(t, w, es, q, set(a, b), count)
			holds(t, w, es, q, rec(field("a", a), field("b", b)), count)
			for _, op := range ofTwos() {
				holds(t, w, es, q, of(op, a, b), count)
			}
			for _, c := range leaves() {
				holds(t, w, es, q, of(api.If, a, b, c), count)
			}
		}
	}
	for _, wrong := range []api.Errno{api.OK, api.ErrType, api.ErrNone, api.ErrOver, api.ErrLost} {
		if count[wrong] < 10 {
			t.Errorf("%v was told %d times alone", wrong, count[wrong])
		}
	}
}

// maker makes worlds and expressions by chance.
type maker struct{ *rand.Rand }

func pick[T any](m maker, list []T) T { return list[m.IntN(len(list))] }

func (m maker) uid() api.Uid {
	return uid(pick(m, []string{"A", "B"}), pick(m, []string{"a", "b", "c", "d"}))
}

func (m maker) name() string { return pick(m, []string{"a", "b", "c"}) }

// worth makes a value, at most so deep.
func (m maker) worth(deep int) worth {
	kinds := 6
	if deep == 0 {
		kinds = 4
	}
	switch m.IntN(kinds) {
	case 0:
		return m.IntN(2) == 0
	case 1:
		return pick(m, []int{0, 1, 2, math.MaxInt, math.MinInt})
	case 2:
		return pick(m, []string{"", "a", "ab", "*"})
	case 3:
		return m.uid()
	case 4:
		g := groupOf()
		for range m.IntN(4) {
			v := m.worth(deep - 1)
			g[look(v)] = v
		}
		return g
	}
	return m.record(deep)
}

func (m maker) record(deep int) record {
	r := record{}
	for range m.IntN(4) {
		r[m.name()] = m.worth(deep - 1)
	}
	return r
}

// world makes one in which those above one stand behind it in a row.
func (m maker) world() world {
	w := world{ones: map[api.Uid]one{}, who: m.uid(), act: m.uid(), what: m.uid(), context: m.record(3)}
	var row []api.Uid
	for range m.IntN(8) {
		if u := m.uid(); !slices.Contains(row, u) {
			row = append(row, u)
		}
	}
	for i, u := range row {
		var up []api.Uid
		for _, other := range append(row[i+1:len(row):len(row)], uid("C", "a"), uid("A", "a")) {
			if m.IntN(3) == 0 && len(up) < api.MaxUp && !slices.Contains(row[:i+1], other) && !slices.Contains(up, other) {
				up = append(up, other)
			}
		}
		if m.IntN(4) > 0 {
			w.ones[u] = one{up, m.record(3)}
			w.order = append(w.order, u)
		}
	}
	m.Shuffle(len(w.order), func(i, j int) { w.order[i], w.order[j] = w.order[j], w.order[i] })
	return w
}

// asTree tells a value as an expression, in some order where that is no matter.
func (m maker) asTree(w worth) expr {
	switch w := w.(type) {
	case group:
		x := set()
		for _, part := range w {
			x = set(append(x.parts, m.asTree(part))...)
		}
		slices.SortFunc(x.parts, func(a, b expr) int { return ahead(b.list(), a.list()) })
		return x
	case record:
		x := rec()
		for _, s := range []string{"a", "b", "c"} {
			if part, has := w[s]; has {
				x = rec(append(x.parts, field(s, m.asTree(part)))...)
			}
		}
		return x
	}
	return expr{head: listed(w)[0]}
}

// Kinds of what is wished for.
const (
	aBool = iota
	aNum
	aText
	anEnt
	aSet
	aRec
	some
)

// expr makes an expression, at most so deep, which most often has a value of
// the kind that is wished for.
func (m maker) expr(wish, deep int) expr {
	if wish == some || m.IntN(12) == 0 {
		wish = m.IntN(some)
	}
	if deep == 0 || m.IntN(8) == 0 {
		return m.leaf(wish)
	}
	deep--
	if m.IntN(8) == 0 {
		return of(api.If, m.expr(aBool, deep), m.expr(wish, deep), m.expr(wish, deep))
	}
	if m.IntN(8) == 0 {
		return with(api.Get, m.name(), m.expr(pick(m, []int{anEnt, aRec}), deep))
	}
	switch wish {
	case aBool:
		return m.ofTruth(deep)
	case aNum:
		if m.IntN(4) == 0 {
			return of(api.Neg, m.expr(aNum, deep))
		}
		return of(pick(m, []int{api.Add, api.Sub, api.Mul}), m.expr(aNum, deep), m.expr(aNum, deep))
	case aSet:
		x, kind := set(), pick(m, []int{anEnt, some})
		for range m.IntN(4) {
			x = set(append(x.parts, m.expr(kind, deep))...)
		}
		return x
	case aRec:
		x := rec()
		for _, s := range []string{"a", "b", "c"} {
			if m.IntN(2) == 0 {
				x = rec(append(x.parts, field(s, m.expr(some, deep)))...)
			}
		}
		return x
	}
	return m.leaf(wish)
}

// ofTruth makes an expression that is true or false.
func (m maker) ofTruth(deep int) expr {
	switch m.IntN(10) {
	case 0:
		return of(api.Not, m.expr(aBool, deep))
	case 1, 2:
		return of(pick(m, []int{api.And, api.Or}), m.expr(aBool, deep), m.expr(aBool, deep))
	case 3:
		kind := m.IntN(some)
		return of(api.Eq, m.expr(kind, deep), m.expr(kind, deep))
	case 4:
		return of(pick(m, []int{api.Lt, api.Le}), m.expr(aNum, deep), m.expr(aNum, deep))
	case 5:
		return of(api.In, m.expr(anEnt, deep), m.expr(pick(m, []int{anEnt, aSet}), deep))
	case 6:
		return with(api.Has, m.name(), m.expr(pick(m, []int{anEnt, aRec}), deep))
	case 7:
		return with(api.Like, pick(m, []string{"*", "a*", `\*`, "", "*b"}), m.expr(aText, deep))
	case 8:
		return with(api.Is, pick(m, []string{"A", "B", "a"}), m.expr(anEnt, deep))
	}
	second := aSet
	op := pick(m, []int{api.One, api.All, api.Any})
	if op == api.One {
		second = some
	}
	return of(op, m.expr(aSet, deep), m.expr(second, deep))
}

// leaf makes an expression of that kind that asks for little.
func (m maker) leaf(wish int) expr {
	switch {
	case m.IntN(40) == 0:
		return named(pick(m, []string{"x", "?principal"}))
	case wish == anEnt && m.IntN(2) == 0:
		return named(pick(m, []string{"principal", "action", "resource"}))
	case wish == aRec && m.IntN(2) == 0:
		return named("context")
	}
	for {
		w := m.worth(2)
		kind := some
		switch w.(type) {
		case bool:
			kind = aBool
		case int:
			kind = aNum
		case string:
			kind = aText
		case api.Uid:
			kind = anEnt
		case group:
			kind = aSet
		case record:
			kind = aRec
		}
		if kind == wish {
			return m.asTree(w)
		}
	}
}

// EV2 to EV4: large expressions in many worlds.
func TestValueOfMany(t *testing.T) {
	m := maker{rand.New(rand.NewPCG(10, 4))}
	count := map[api.Errno]int{}
	for range 1000 {
		w := m.world()
		es, q := w.store(), w.request()
		for range 40 {
			x := m.expr(some, m.IntN(6))
			if len(x.list()) <= api.MaxNodes {
				holds(t, w, es, q, x, count)
			}
		}
	}
	for _, wrong := range []api.Errno{api.OK, api.ErrType, api.ErrNone, api.ErrOver, api.ErrLost} {
		if count[wrong] < 500 {
			t.Errorf("%v was told %d times alone", wrong, count[wrong])
		}
	}
}

// spoil writes into all of a list's memory that its owner may write into.
func spoil(e nodes) {
	e = e[:cap(e)]
	for i := range e {
		e[i] = api.Node{Op: -1, S: "spoilt"}
	}
}

// behind tells a list with other things behind its length.
func behind[T any](list []T, other T) []T {
	longer := append(slices.Clone(list), other, other, other)
	return longer[:len(list)]
}

// P2, P4: nothing that is handed in is written into, kept or shared, nor is
// what lies behind its length read or written.
func TestValueMemory(t *testing.T) {
	w := smallWorld()
	junk := api.Node{Op: api.Not, N: 3, S: "junk", T: "junk"}
	asked := func() ([]api.Entity, api.Request) {
		es := behind(w.store(), api.Entity{})
		for i := range es {
			es[i].Up = behind(es[i].Up, uid("junk", "\n"))
			es[i].Attrs = behind(es[i].Attrs, junk)
		}
		q := w.request()
		q.Context = behind(q.Context, junk)
		return es, q
	}
	before, beforeQ := asked()
	whole := func(es []api.Entity, q api.Request, e nodes) string {
		s := fmt.Sprintf("%#v %#v", e[:cap(e)][:len(e)+3], q.Context[:len(q.Context)+3])
		for _, x := range es[:len(es)+1] {
			s += fmt.Sprintf("%#v %#v %#v", x.Uid, x.Up[:cap(x.Up)][:min(cap(x.Up), len(x.Up)+3)], x.Attrs[:min(cap(x.Attrs), len(x.Attrs)+3)])
		}
		return s
	}
	for _, line := range []string{
		"context", "context.groups", "context.n", "principal", "principal.tags", "principal.rec", "[context, principal.rec]", "{a: context, b: principal.tags}", "if true then context else 1",
		"1", "true", `"a"`, `A::"a"`, "principal has age", "principal in context.groups", "!false", "-1 + 2", "false && true", "[]", "{}", "[[1], [1]]",
	} {
		e := behind(parsed(t, line), junk)
		es, q := asked()
		want := whole(before, beforeQ, e)
		got, err := eval.Value(es, q, e)
		wantError(t, line, err, api.OK)
		first := slices.Clone(got)
		again, _ := eval.Value(es, q, e)
		spoil(got)
		if !slices.Equal(again, first) {
			t.Errorf("Value of %s: two answers share memory", line)
		}
		if whole(es, q, e) != want {
			t.Errorf("Value of %s: what was handed in is changed", line)
		}
	}
}

// P2: one call's answer does not hang on another's.
func TestValueAgain(t *testing.T) {
	m := maker{rand.New(rand.NewPCG(1, 2))}
	for range 200 {
		w, x := m.world(), m.expr(some, 4)
		es, q, e := w.store(), w.request(), x.list()
		first, err := eval.Value(es, q, e)
		eval.Value(smallWorld().store(), smallWorld().request(), named("context").list())
		second, again := eval.Value(es, q, e)
		if !slices.Equal(first, second) || plain.Told(err) != plain.Told(again) {
			t.Fatalf("Value of %s: first %s, then %s", shown(e), shown(first), shown(second))
		}
	}
}

// P1: whatever is handed in, the call ends.
func TestValueOfAnything(t *testing.T) {
	m := maker{rand.New(rand.NewPCG(3, 3))}
	w := smallWorld()
	es, q := w.store(), w.request()
	for range 20000 {
		var e nodes
		for range m.IntN(8) {
			e = append(e, api.Node{Op: m.IntN(29), N: pick(m, []int{0, 0, 0, 1, 2}), S: pick(m, []string{"", "", "a", "age", "principal"})})
		}
		got, err := eval.Value(es, q, e)
		if err != nil && got != nil {
			t.Fatalf("Value of %s: %s with %v", shown(e), shown(got), err)
		}
		if err == nil && val.Check(got) != nil {
			t.Fatalf("Value of %s: %s is no value", shown(e), shown(got))
		}
	}
}
