package tree_test

import (
	"fmt"
	"math"
	"slices"
	"strings"
	"testing"

	"wicketgate/api"
	"wicketgate/plain"
	"wicketgate/tree"
	"wicketgate/val"
)

// nodes is short for what every call here is about.
type nodes = []api.Node

// expr is an expression as a tree: the tests know by it what the program must
// find out of a list. A field is one too, with its part.
type expr struct {
	head  api.Node
	parts []expr
}

// list tells the nodes of an expression.
func (x expr) list() nodes {
	l := nodes{x.head}
	for _, part := range x.parts {
		l = append(l, part.list()...)
	}
	return l
}

// put tells the expression with another one in the place of a name.
func (x expr) put(s string, v expr) expr {
	if x.head.Op == api.Var && x.head.S == s {
		return v
	}
	y := expr{head: x.head}
	for _, part := range x.parts {
		y.parts = append(y.parts, part.put(s, v))
	}
	return y
}

// has tells if a name stands for something in it.
func (x expr) has(s string) bool {
	return x.head == api.Node{Op: api.Var, S: s} ||
		slices.ContainsFunc(x.parts, func(part expr) bool { return part.has(s) })
}

// Short forms of expressions: they are as they are handed in, and may be none.

func of(op int, parts ...expr) expr             { return expr{api.Node{Op: op}, parts} }
func with(op int, s string, parts ...expr) expr { return expr{api.Node{Op: op, S: s}, parts} }
func truth(n int) expr                          { return expr{head: api.Node{Op: api.Bool, N: n}} }
func num(n int) expr                            { return expr{head: api.Node{Op: api.Num, N: n}} }
func text(s string) expr                        { return with(api.Text, s) }
func ent(s, t string) expr                      { return expr{head: api.Node{Op: api.Ent, S: s, T: t}} }
func named(s string) expr                       { return with(api.Var, s) }
func field(s string, part expr) expr            { return with(api.Field, s, part) }
func set(parts ...expr) expr                    { return expr{api.Node{Op: api.Set, N: len(parts)}, parts} }
func rec(fields ...expr) expr                   { return expr{api.Node{Op: api.Rec, N: len(fields)}, fields} }

// wide is a set of so many parts.
func wide(count int, part expr) expr {
	return set(slices.Repeat([]expr{part}, count)...)
}

// deep is a leaf below so many nodes of one part.
func deep(count int, leaf api.Node) nodes {
	return append(slices.Repeat(nodes{{Op: api.Not}}, count), leaf)
}

// long is a list that has one node too many, and is no expression.
func long() nodes { return make(nodes, api.MaxNodes+1) }

// broken is a list that is no expression.
func broken() nodes { return nodes{{Op: api.Not}} }

// wantError fails unless err is the error of that number.
func wantError(t *testing.T, call string, err error, want api.Errno) {
	t.Helper()
	if got := plain.Told(err); got != want {
		t.Errorf("%s: error %v, want %v", call, got, want)
	}
	if err != nil && want == api.OK {
		t.Errorf("%s: an error that is not nil, where nothing is wrong", call)
	}
}

// wantCheck fails unless Check tells that error.
func wantCheck(t *testing.T, e nodes, want api.Errno) {
	t.Helper()
	wantError(t, "Check of "+shown(e), tree.Check(e), want)
}

// wantEnd fails unless End tells that place and that error.
func wantEnd(t *testing.T, e nodes, at, want int, wrong api.Errno) {
	t.Helper()
	call := fmt.Sprintf("End at %d of %s", at, shown(e))
	got, err := tree.End(e, at)
	wantError(t, call, err, wrong)
	if got != want {
		t.Errorf("%s: got %d, want %d", call, got, want)
	}
}

// wantVars fails unless Vars tells those names and that error.
func wantVars(t *testing.T, e nodes, want []string, wrong api.Errno) {
	t.Helper()
	got, err := tree.Vars(e)
	wantError(t, "Vars of "+shown(e), err, wrong)
	if !slices.Equal(got, want) {
		t.Errorf("Vars of %s: got %q, want %q", shown(e), got, want)
	}
}

// wantPut fails unless Put tells those nodes and that error.
func wantPut(t *testing.T, e nodes, s string, v, want nodes, wrong api.Errno) {
	t.Helper()
	call := fmt.Sprintf("Put for %q of %s into %s", s, shown(v), shown(e))
	got, err := tree.Put(e, s, v)
	wantError(t, call, err, wrong)
	if !slices.Equal(got, want) {
		t.Errorf("%s: got %s, want %s", call, shown(got), shown(want))
	}
}

// wantSame fails if a call, or writing into its answer, changed a list that
// was handed in.
func wantSame(t *testing.T, call string, given, before nodes) {
	t.Helper()
	if !slices.Equal(given, before) {
		t.Errorf("%s: what was handed in is now %s, was %s", call, shown(given), shown(before))
	}
}

// shown has no more of a thing than a message can bear.
func shown(x any) string {
	s := fmt.Sprintf("%+q", fmt.Sprint(x))
	if len(s) > 200 {
		s = s[:200] + "..."
	}
	return s
}

// key tells lists apart that are not the same.
func key(e nodes) string {
	return fmt.Sprintf("%#v", e)
}

// spoil writes into all of a list's memory that its owner may write into.
func spoil(e nodes) {
	e = e[:cap(e)]
	for i := range e {
		e[i] = api.Node{Op: -1, S: "spoilt"}
	}
}

// kind is a right node, without its parts, and how many it has.
type kind struct {
	head  api.Node
	parts int
}

// kinds are those of TR1, but for Set, Rec and Field.
func kinds() []kind {
	all := []kind{
		{truth(1).head, 0}, {num(7).head, 0}, {text("a b").head, 0}, {ent("A", "a b").head, 0}, {named("a").head, 0}, {named("?a").head, 0},
		{with(api.Has, "a").head, 1}, {with(api.Get, "a").head, 1}, {with(api.Like, "a *").head, 1}, {with(api.Is, "a").head, 1},
		{of(api.Not).head, 1}, {of(api.Neg).head, 1}, {of(api.If).head, 3},
	}
	for _, op := range []int{api.And, api.Or, api.Eq, api.Lt, api.Le, api.Add, api.Sub, api.Mul, api.In, api.One, api.All, api.Any} {
		all = append(all, kind{of(op).head, 2})
	}
	return all
}

// having tells an expression of that kind, each part the same.
func (k kind) having(part expr) expr {
	return expr{k.head, slices.Repeat([]expr{part}, k.parts)}
}

// heads are those of which all expressions of made are; a Set or a Rec has as
// many parts as it says.
func heads() nodes {
	hs := nodes{
		{Op: api.Num, N: 7}, {Op: api.Var, S: "a"}, {Op: api.Var, S: "?a"}, {Op: api.Not}, {Op: api.Get, S: "a"},
		{Op: api.Eq}, {Op: api.If}, {Op: api.Field, S: "a"}, {Op: api.Field, S: "b"},
	}
	for n := range 4 {
		hs = append(hs, api.Node{Op: api.Set, N: n})
	}
	for n := range 3 {
		hs = append(hs, api.Node{Op: api.Rec, N: n})
	}
	return hs
}

// made builds all expressions of heads with at most most nodes, smaller ones
// first, never asking the program.
func made(most int) []expr {
	bySize := make([][]expr, most+1)
	for size := 1; size <= most; size++ {
		for _, head := range heads() {
			bySize[size] = append(bySize[size], below(head, bySize, size-1)...)
		}
	}
	return slices.Concat(bySize...)
}

// below builds all that have this head, with just left nodes behind it.
func below(head api.Node, bySize [][]expr, left int) []expr {
	var all []expr
	if head.Op == api.Rec {
		for _, names := range [][]string{{}, {"a"}, {"b"}, {"a", "b"}} {
			if len(names) != head.N {
				continue
			}
			for _, parts := range rows(head.N, bySize, left-head.N) {
				for i := range parts {
					parts[i] = field(names[i], parts[i])
				}
				all = append(all, expr{head, parts})
			}
		}
		return all
	}
	count := head.N
	if head.Op != api.Set {
		i := slices.IndexFunc(kinds(), func(k kind) bool { return k.head == head })
		if i < 0 {
			return nil
		}
		count = kinds()[i].parts
	}
	for _, parts := range rows(count, bySize, left) {
		all = append(all, expr{head, parts})
	}
	return all
}

// rows builds all rows of so many expressions that have just left nodes.
func rows(count int, bySize [][]expr, left int) [][]expr {
	if count == 0 && left == 0 {
		return [][]expr{nil}
	}
	var all [][]expr
	for size := 1; count > 0 && size <= left; size++ {
		for _, rest := range rows(count-1, bySize, left-size) {
			for _, first := range bySize[size] {
				all = append(all, append([]expr{first}, rest...))
			}
		}
	}
	return all
}

// TR1: of all short lists of some nodes just those are expressions that are
// made.
func TestCheckAllShortLists(t *testing.T) {
	const most = 5
	exprs := map[string]bool{}
	for _, x := range made(most) {
		exprs[key(x.list())] = true
	}
	found := 0
	var try func(e nodes)
	try = func(e nodes) {
		// To name each list is slow: only what is told to be one is named.
		if err := tree.Check(e); err != nil {
			if plain.Told(err) != api.ErrSyntax {
				t.Errorf("Check of %s: error %v", shown(e), err)
			}
		} else if exprs[key(e)] {
			found++
		} else {
			t.Errorf("Check of %s: it is none", shown(e))
		}
		if len(e) == most || t.Failed() {
			return
		}
		for _, n := range heads() {
			try(append(slices.Clip(e), n))
		}
	}
	try(nil)
	if found != len(exprs) {
		t.Errorf("%d expressions found, want %d", found, len(exprs))
	}
}

// TR1: how many parts each node has, at the head and within.
func TestCheckCounts(t *testing.T) {
	for _, k := range kinds() {
		for count := range 6 {
			want := api.ErrSyntax
			if count == k.parts {
				want = api.OK
			}
			for _, leaf := range []expr{num(1), named("x"), set(), of(api.Not, truth(0)), rec(field("a", num(1)))} {
				x := kind{k.head, count}.having(leaf)
				for _, y := range []expr{x, of(api.Not, x), of(api.If, num(1), x, num(2)), set(x), rec(field("a", x), field("b", num(1)))} {
					wantCheck(t, y.list(), want)
				}
			}
		}
	}
}

// TR1: no other node is of an expression, and a Field is none by itself.
func TestCheckOtherOps(t *testing.T) {
	ops := []int{math.MinInt, -1 << 32, math.MaxInt, 1<<32 + api.Num, 1<<32 + api.Not, api.Field}
	for i := range 100 {
		ops = append(ops, -i, api.Any+1+i)
	}
	for _, op := range ops {
		for _, s := range []string{"", "a"} {
			for count := range 4 {
				x := kind{with(op, s).head, count}.having(num(1))
				for _, y := range []expr{x, set(x), of(api.Not, x), of(api.Eq, num(1), x)} {
					wantCheck(t, y.list(), api.ErrSyntax)
				}
			}
		}
	}
}

// TR1: fields of a node that are not named are 0 or empty, at the head and
// within.
func TestCheckFields(t *testing.T) {
	names := map[int]string{
		api.Bool: "N", api.Num: "N", api.Text: "S", api.Ent: "ST", api.Set: "N", api.Rec: "N",
		api.Field: "S", api.Var: "S", api.Has: "S", api.Get: "S", api.Like: "S", api.Is: "S",
	}
	var xs []expr
	for _, k := range kinds() {
		xs = append(xs, k.having(num(1)))
	}
	xs = append(xs, set(), set(num(1)), rec(), rec(field("a", num(1))))
	for _, x := range xs {
		wantCheck(t, x.list(), api.OK)
		for what, node := range map[string]api.Node{
			"N": {N: 1}, "-N": {N: -1}, "S": {S: "x"}, "T": {T: "x"},
		} {
			if strings.Contains(names[x.head.Op], strings.Trim(what, "-")) {
				continue
			}
			y := expr{x.head, x.parts}
			y.head.N, y.head.S, y.head.T = y.head.N+node.N, y.head.S+node.S, y.head.T+node.T
			for _, z := range []expr{y, set(y), of(api.Neg, y), rec(field("q", y)), of(api.And, num(1), y)} {
				wantCheck(t, z.list(), api.ErrSyntax)
			}
		}
	}
	for _, n := range (nodes{{Op: api.Field, N: 1, S: "a"}, {Op: api.Field, S: "a", T: "b"}, {Op: api.Field, N: -1, S: "a"}, {Op: api.Field}}) {
		wantCheck(t, rec(expr{n, []expr{num(1)}}).list(), api.ErrSyntax)
		wantCheck(t, rec(field("A", num(1)), expr{n, []expr{num(1)}}).list(), api.ErrSyntax)
	}
}

// TR1: what numbers and texts may be, and in which order fields stand; sets
// are in any.
func TestCheckContents(t *testing.T) {
	full := strings.Repeat("a", api.MaxText)
	for _, c := range []struct {
		x    expr
		want api.Errno
	}{
		{truth(0), api.OK}, {truth(1), api.OK}, {truth(2), api.ErrSyntax}, {truth(-1), api.ErrSyntax},
		{num(math.MaxInt), api.OK}, {num(math.MinInt), api.OK},
		{text(""), api.OK}, {text(" ~\"\\"), api.OK}, {text(full), api.OK},
		{text(full + "a"), api.ErrSyntax}, {text("\x1f"), api.ErrSyntax}, {text("\x7f"), api.ErrSyntax}, {text("\u00e9"), api.ErrSyntax},
		{ent("A", ""), api.OK}, {ent("if", full), api.OK}, {ent("A", full+"a"), api.ErrSyntax}, {ent("A", "\n"), api.ErrSyntax},
		{with(api.Like, "", num(1)), api.OK}, {with(api.Like, `a\*"*\`, num(1)), api.OK}, {with(api.Like, full, num(1)), api.OK},
		{with(api.Like, full+"*", num(1)), api.ErrSyntax}, {with(api.Like, "\x1f", num(1)), api.ErrSyntax}, {with(api.Like, "*\x7f", num(1)), api.ErrSyntax},
		{set(num(2), num(1)), api.OK}, {set(num(1), num(1)), api.OK}, {set(text("a"), num(1), named("a"), num(2)), api.OK},
		{rec(field("B", num(1)), field("_", num(1)), field("a", num(1)), field("aa", num(1)), field("b", num(1))), api.OK},
		{rec(field("a", num(1)), field("B", num(1))), api.ErrSyntax}, {rec(field("aa", num(1)), field("a", num(1))), api.ErrSyntax},
		{rec(field("a", num(1)), field("a", num(2))), api.ErrSyntax}, {rec(field("a", num(1)), field("a", num(1))), api.ErrSyntax},
		{rec(field("a", rec(field("b", num(1)))), field("b", rec(field("a", num(1))))), api.OK},
		{rec(field("a", num(1)), num(2)), api.ErrSyntax}, {rec(num(1)), api.ErrSyntax}, {rec(named("a")), api.ErrSyntax},
		{field("a", num(1)), api.ErrSyntax}, {set(field("a", num(1))), api.ErrSyntax}, {of(api.Not, field("a", num(1))), api.ErrSyntax},
		{rec(field("a", field("b", num(1)))), api.ErrSyntax}, {of(api.Eq, rec(field("a", num(1))), field("b", num(1))), api.ErrSyntax},
		{of(api.If, of(api.Not, text("a")), rec(field("a", set(named("?b")))), with(api.Is, "A", num(1))), api.OK},
	} {
		wantCheck(t, c.x.list(), c.want)
	}
	for _, e := range []nodes{
		nil, {}, {{}}, {{}, {}}, slices.Concat(num(1).list(), num(2).list()), slices.Concat(set().list(), num(2).list()),
		slices.Concat(of(api.Not, num(1)).list(), of(api.Not, num(1)).list()), slices.Concat(rec(field("a", num(1))).list(), field("b", num(1)).list()),
		rec(field("a", num(1))).list()[:2], rec(field("a", num(1))).list()[:1], of(api.If, num(1), num(1), num(1)).list()[:3],
	} {
		wantCheck(t, e, api.ErrSyntax)
	}
}

// TR1: which names nodes may have: a Var none that is a word of the language.
func TestCheckNames(t *testing.T) {
	words := []string{"if", "then", "else", "true", "false", "in", "has", "like", "is"}
	full := strings.Repeat("a", api.MaxName)
	names := []string{
		"a", "_", "Z9", "principal", "If", "IF", "ifs", "_if", "i", "tru", "contains", "when", "permit", "unless", "forbid", "not", "and", "or", "null", "_in", "is1", full,
	}
	wrong := []string{"", "9", "a-b", " a", "a ", "a b", "\u00e9", "a::b", "a.b", "?", "??a", "?9", "? a", "?a b", "?a?", "a?", "!a", "?\u00e9", "?-", full + "a", "?" + full + "a"}
	check := func(s string, asVar, asName api.Errno) {
		t.Helper()
		wantCheck(t, named(s).list(), asVar)
		wantCheck(t, set(num(1), named(s)).list(), asVar)
		for _, x := range []expr{
			with(api.Has, s, num(1)), with(api.Get, s, num(1)), with(api.Is, s, num(1)), ent(s, "a"), rec(field(s, num(1))),
		} {
			wantCheck(t, x.list(), asName)
		}
	}
	for _, s := range words {
		check(s, api.ErrSyntax, api.OK)
		check("?"+s, api.OK, api.ErrSyntax)
	}
	for _, s := range names {
		check(s, api.OK, api.OK)
		check("?"+s, api.OK, api.ErrSyntax)
	}
	for _, s := range wrong {
		check(s, api.ErrSyntax, api.ErrSyntax)
	}
}

// TR1: which bytes a name or a slot may have.
func TestCheckVarBytes(t *testing.T) {
	for b := range 256 {
		one := string([]byte{byte(b)})
		letter := b >= 'A' && b <= 'Z' || b >= 'a' && b <= 'z' || b == '_'
		digit := b >= '0' && b <= '9'
		for s, may := range map[string]bool{
			one: letter, "?" + one: letter, one + "a": letter || b == '?', "a" + one: letter || digit, "?a" + one: letter || digit,
		} {
			want := api.ErrSyntax
			if may {
				want = api.OK
			}
			wantCheck(t, named(s).list(), want)
		}
	}
}

// TR1: how many nodes there may be; ErrFull comes ahead of ErrSyntax.
func TestCheckLengths(t *testing.T) {
	one := api.Node{Op: api.Num, N: 1}
	for _, c := range []struct {
		what string
		e    nodes
		want api.Errno
	}{
		{"a full set", wide(api.MaxNodes-1, num(1)).list(), api.OK},
		{"a set with one too many", wide(api.MaxNodes, num(1)).list(), api.ErrFull},
		{"a deep one", deep(api.MaxNodes-1, one), api.OK},
		{"one too deep", deep(api.MaxNodes, one), api.ErrFull},
		{"one far too deep", deep(1<<18, one), api.ErrFull},
		{"nodes of nothing", make(nodes, api.MaxNodes), api.ErrSyntax},
		{"too many nodes of nothing", long(), api.ErrFull},
		{"heads alone", deep(api.MaxNodes, one)[:api.MaxNodes], api.ErrSyntax},
		{"heads of three parts alone", slices.Repeat(nodes{{Op: api.If}}, api.MaxNodes), api.ErrSyntax},
		{"one node behind an expression", append(deep(api.MaxNodes-2, one), one), api.ErrSyntax},
	} {
		wantError(t, "Check of "+c.what, tree.Check(c.e), c.want)
	}
	for _, n := range []int{math.MinInt, math.MinInt + 1, -1 << 32, -2, -1, 2, 3, 1 << 32, 1<<32 + 1, math.MaxInt - 1, math.MaxInt} {
		for _, op := range []int{api.Set, api.Rec} {
			for _, parts := range [][]expr{nil, {num(1)}, {field("a", num(1))}} {
				x := expr{api.Node{Op: op, N: n}, parts}
				greats := slices.Repeat(x.list(), 3)
				for _, e := range []nodes{x.list(), set(x).list(), rec(field("a", x)).list(), of(api.Not, x).list(), greats} {
					wantCheck(t, e, api.ErrSyntax)
				}
			}
		}
	}
}

// TR1: each value is an expression, and some expressions are none.
func TestEachValueIsAnExpression(t *testing.T) {
	values := 0
	for _, x := range append(made(5),
		set(num(math.MinInt), text("a"), ent("A", "a"), set(), rec()), rec(field("in", set(truth(0), truth(1)))), truth(0),
	) {
		e := x.list()
		if val.Check(e) == nil {
			values++
		}
		wantCheck(t, e, api.OK)
	}
	if values < 10 {
		t.Errorf("only %d values were asked", values)
	}
}

// TR2: where the parts of an expression end, at each place, and what is told
// of places that are none, or have a Field.
func TestEnd(t *testing.T) {
	for _, x := range append(made(5), big()) {
		e := x.list()
		before := slices.Clone(e)
		var visit func(x expr, at int)
		visit = func(x expr, at int) {
			if x.head.Op == api.Field {
				wantEnd(t, e, at, 0, api.ErrType)
			} else {
				wantEnd(t, e, at, at+len(x.list()), api.OK)
			}
			at++
			for _, part := range x.parts {
				visit(part, at)
				at += len(part.list())
			}
		}
		visit(x, 0)
		for _, at := range []int{math.MinInt, -1 << 32, -2, -1, len(e), len(e) + 1, 1 << 32, math.MaxInt} {
			wantEnd(t, e, at, 0, api.ErrNone)
		}
		wantSame(t, "End", e, before)
		if t.Failed() {
			return
		}
	}
}

// big is an expression with each kind of node in it.
func big() expr {
	var parts []expr
	for _, k := range kinds() {
		parts = append(parts, k.having(of(api.Sub, named("x"), named("?x"))))
	}
	return set(set(parts...), rec(field("a", set()), field("b", rec()), field("c", rec(field("d", num(1)), field("e", named("y"))))), num(1))
}

// TR2: what Check tells comes ahead of ErrNone and of ErrType.
func TestEndErrors(t *testing.T) {
	for _, c := range []struct {
		e    nodes
		want api.Errno
	}{
		{nil, api.ErrSyntax}, {broken(), api.ErrSyntax}, {long(), api.ErrFull}, {wide(api.MaxNodes, num(1)).list(), api.ErrFull},
		{field("a", num(1)).list(), api.ErrSyntax}, {slices.Concat(num(1).list(), num(1).list()), api.ErrSyntax},
		{slices.Concat(num(1).list(), field("a", num(1)).list()), api.ErrSyntax},
	} {
		for _, at := range []int{math.MinInt, -1, 0, 1, 2, len(c.e), math.MaxInt} {
			wantEnd(t, c.e, at, 0, c.want)
		}
	}
	full := wide(api.MaxNodes-1, num(1)).list()
	wantEnd(t, full, 0, api.MaxNodes, api.OK)
	wantEnd(t, full, api.MaxNodes-1, api.MaxNodes, api.OK)
	wantEnd(t, full, api.MaxNodes, 0, api.ErrNone)
	wantEnd(t, deep(api.MaxNodes-1, api.Node{Op: api.Num}), 7, api.MaxNodes, api.OK)
	wantEnd(t, rec(field("a", num(1))).list(), 1, 0, api.ErrType)
	wantEnd(t, rec(field("a", num(1))).list(), 2, 3, api.OK)
	wantEnd(t, rec(field("a", num(1))).list(), 3, 0, api.ErrNone)
}

// TR2: the names that stand for something in all that is made.
func TestVarsOfAllThatIsMade(t *testing.T) {
	for _, x := range made(5) {
		e := x.list()
		before := slices.Clone(e)
		var want []string
		for _, s := range []string{"?a", "a"} {
			if x.has(s) {
				want = append(want, s)
			}
		}
		wantVars(t, e, want, api.OK)
		wantSame(t, "Vars", e, before)
		if t.Failed() {
			return
		}
	}
}

// TR2: each once, rising byte by byte, and of Var alone; and what is wrong.
func TestVars(t *testing.T) {
	row := func(ss ...string) expr {
		x := set()
		for _, s := range ss {
			x.parts = append(x.parts, named(s))
		}
		return set(x.parts...)
	}
	var many, rising []string
	for i := range api.MaxNodes - 1 {
		many = append(many, fmt.Sprintf("n%03d", i*73%(api.MaxNodes-1)))
		rising = append(rising, fmt.Sprintf("n%03d", i))
	}
	for _, c := range []struct {
		e     nodes
		want  []string
		wrong api.Errno
	}{
		{num(1).list(), nil, api.OK},
		{named("a").list(), []string{"a"}, api.OK},
		{row("b", "a", "b", "a", "b").list(), []string{"a", "b"}, api.OK},
		{row("a", "b", "B", "_", "aa", "?z", "Z", "?if", "?Z", "a", "a0", "?z").list(), []string{"?Z", "?if", "?z", "B", "Z", "_", "a", "a0", "aa", "b"}, api.OK},
		{row(many...).list(), rising, api.OK},
		{set(text("t"), ent("e", "i"), with(api.Has, "h", named("v")), with(api.Get, "g", num(1)), with(api.Like, "l", num(1)), with(api.Is, "s", num(1)), rec(field("f", num(1)))).list(), []string{"v"}, api.OK},
		{rec(field("a", of(api.If, named("z"), of(api.Not, named("y")), set(named("x"), rec(field("w", named("?w"))))))).list(), []string{"?w", "x", "y", "z"}, api.OK},
		{nil, nil, api.ErrSyntax}, {broken(), nil, api.ErrSyntax}, {long(), nil, api.ErrFull},
		{named("if").list(), nil, api.ErrSyntax}, {row("a", "?").list(), nil, api.ErrSyntax},
		{slices.Concat(named("a").list(), named("b").list()), nil, api.ErrSyntax},
		{wide(api.MaxNodes, named("a")).list(), nil, api.ErrFull},
	} {
		wantVars(t, c.e, c.want, c.wrong)
	}
}

// TR2: what is put into all that is made, for a name that stands there or not;
// nothing that was handed in is written into or kept.
func TestPutIntoAllThatIsMade(t *testing.T) {
	vs := []expr{num(9), named("a"), named("?a"), of(api.Eq, named("a"), named("?a")), rec(field("a", set(named("a")))), set()}
	for _, x := range append(made(4), big()) {
		for _, v := range vs {
			for _, s := range []string{"a", "?a", "b", "", "?", "if", "a b"} {
				e, put := x.list(), v.list()
				wantPut(t, e, s, put, x.put(s, v).list(), api.OK)
				got, _ := tree.Put(e, s, put)
				wantCheck(t, got, api.OK)
				spoil(got)
				wantSame(t, "Put into", e, x.list())
				wantSame(t, "Put of", put, v.list())
			}
		}
		if t.Failed() {
			return
		}
	}
}

// TR2: a name is put for where it is a Var, and nowhere else.
func TestPutForVarsAlone(t *testing.T) {
	others := func(x expr) expr {
		return set(text("a"), ent("a", "a"), with(api.Has, "a", x), with(api.Get, "a", x), with(api.Like, "a", x), with(api.Is, "a", x),
			rec(field("a", x), field("b", named("?a"))), named("A"), named("aa"))
	}
	v := of(api.And, named("a"), named("b"))
	wantPut(t, others(named("a")).list(), "a", v.list(), others(v).list(), api.OK)
	e := of(api.Eq, named("a"), named("a")).list()
	want := of(api.Eq, of(api.Eq, named("a"), named("a")), of(api.Eq, named("a"), named("a"))).list()
	wantPut(t, e, "a", e, want, api.OK)
	wantPut(t, named("a").list(), "a", v.list(), v.list(), api.OK)
}

// TR2: what is wrong with e comes ahead of what is wrong with v, and that ahead
// of how many nodes there would be; v must be right also where it is put
// nowhere.
func TestPutErrors(t *testing.T) {
	full := wide(api.MaxNodes-1, named("a"))
	half := wide(99, num(1))
	for _, c := range []struct {
		what  string
		e, v  nodes
		want  nodes
		wrong api.Errno
	}{
		{"e broken", broken(), num(1).list(), nil, api.ErrSyntax},
		{"e too long", long(), num(1).list(), nil, api.ErrFull},
		{"e empty", nil, num(1).list(), nil, api.ErrSyntax},
		{"v broken", named("a").list(), broken(), nil, api.ErrSyntax},
		{"v too long", named("a").list(), long(), nil, api.ErrFull},
		{"v empty", named("a").list(), nil, nil, api.ErrSyntax},
		{"v a field", rec(field("a", named("a"))).list(), field("a", num(1)).list(), nil, api.ErrSyntax},
		{"v two expressions", set(named("a")).list(), slices.Concat(num(1).list(), num(1).list()), nil, api.ErrSyntax},
		{"v broken, put nowhere", num(1).list(), broken(), nil, api.ErrSyntax},
		{"v too long, put nowhere", num(1).list(), long(), nil, api.ErrFull},
		{"e broken, v too long", broken(), long(), nil, api.ErrSyntax},
		{"e too long, v broken", long(), broken(), nil, api.ErrFull},
		{"v broken, e full", full.list(), broken(), nil, api.ErrSyntax},
		{"a full one, as great as before", full.list(), num(1).list(), wide(api.MaxNodes-1, num(1)).list(), api.OK},
		{"a full one, greater", full.list(), of(api.Not, num(1)).list(), nil, api.ErrFull},
		{"a full one, far greater", full.list(), full.list(), nil, api.ErrFull},
		{"a full one for a name", named("a").list(), full.list(), full.list(), api.OK},
		{"a full one below a node", of(api.Not, named("a")).list(), full.list(), nil, api.ErrFull},
		{"as many nodes as may be, at the end", set(num(1), half, of(api.Not, named("a"))).list(), wide(96, num(1)).list(), set(num(1), half, of(api.Not, wide(96, num(1)))).list(), api.OK},
		{"one node too many behind what is put", of(api.And, named("a"), half).list(), half.list(), nil, api.ErrFull},
		{"one node less behind what is put", of(api.And, named("a"), half).list(), wide(98, num(1)).list(), of(api.And, wide(98, num(1)), half).list(), api.OK},
		{"a full one, put nowhere", wide(api.MaxNodes-1, named("b")).list(), full.list(), wide(api.MaxNodes-1, named("b")).list(), api.OK},
	} {
		got, err := tree.Put(c.e, "a", c.v)
		wantError(t, "Put: "+c.what, err, c.wrong)
		if !slices.Equal(got, c.want) {
			t.Errorf("Put: %s: got %s, want %s", c.what, shown(got), shown(c.want))
		}
	}
}

// P4: what lies behind a list's length is neither read nor written.
func TestBehindTheLength(t *testing.T) {
	memory := slices.Concat(of(api.Not, named("a")).list(), num(2).list(), named("b").list())
	before := slices.Clone(memory)
	wantCheck(t, memory[:1], api.ErrSyntax)
	wantCheck(t, memory[:2], api.OK)
	wantEnd(t, memory[:2], 2, 0, api.ErrNone)
	wantVars(t, memory[:2], []string{"a"}, api.OK)
	wantPut(t, memory[:2], "a", memory[2:3], of(api.Not, num(2)).list(), api.OK)
	wantPut(t, memory[1:2], "a", memory[:2], of(api.Not, named("a")).list(), api.OK)
	wantPut(t, memory[:2], "c", memory[:2], memory[:2], api.OK)
	wantSame(t, "what lies behind", memory, before)
}
