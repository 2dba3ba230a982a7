package val_test

import (
	"fmt"
	"math"
	"slices"
	"strings"
	"testing"

	"wicketgate/api"
	"wicketgate/plain"
	"wicketgate/val"
)

// value is short for what every call here is about.
type value = []api.Node

// wantError fails unless err is the error of that number.
func wantError(t *testing.T, call string, err error, want api.Errno) {
	t.Helper()
	if got := plain.Told(err); got != want {
		t.Errorf("%s: error %v, want %v", call, got, want)
	}
}

// wantValue fails unless these are the value and the error that are wanted.
func wantValue(t *testing.T, call string, got value, err error, want value, wrong api.Errno) {
	t.Helper()
	wantError(t, call, err, wrong)
	if !slices.Equal(got, want) {
		t.Errorf("%s: got %s, want %s", call, shown(got), shown(want))
	}
}

// shown has no more of a thing than a message can bear.
func shown(x any) string {
	s := fmt.Sprintf("%+q", fmt.Sprint(x))
	if len(s) > 200 {
		s = s[:200] + "..."
	}
	return s
}

// key tells lists apart that are not the same.
func key(v value) string {
	return fmt.Sprintf("%#v", v)
}

// clone copies lists and what stands in them.
func clone(vs []value) []value {
	out := make([]value, len(vs))
	for i, v := range vs {
		out[i] = slices.Clone(v)
	}
	return out
}

// Short forms of values.

func truth(n int) value     { return value{{Op: api.Bool, N: n}} }
func num(n int) value       { return value{{Op: api.Num, N: n}} }
func text(s string) value   { return value{{Op: api.Text, S: s}} }
func ent(s, t string) value { return value{{Op: api.Ent, S: s, T: t}} }

// set is as the parts are handed in: it may be none.
func set(parts ...value) value {
	return append(value{{Op: api.Set, N: len(parts)}}, slices.Concat(parts...)...)
}

func field(s string, part value) value {
	return append(value{{Op: api.Field, S: s}}, part...)
}

// rec is as the fields are handed in: it may be none.
func rec(fields ...value) value {
	return append(value{{Op: api.Rec, N: len(fields)}}, slices.Concat(fields...)...)
}

// nums is a row of values that rise.
func nums(from, count int) []value {
	vs := make([]value, count)
	for i := range vs {
		vs[i] = num(from + i)
	}
	return vs
}

// deep is a leaf within so many sets.
func deep(sets int) value {
	v := make(value, 0, sets+1)
	for range sets {
		v = append(v, api.Node{Op: api.Set, N: 1})
	}
	return append(v, api.Node{Op: api.Num, N: 1})
}

// ahead is the document's order, written out once more.
func ahead(a, b value) int {
	for i := 0; i < len(a) && i < len(b); i++ {
		x, y := a[i], b[i]
		switch {
		case x == y:
			continue
		case x.Op != y.Op && x.Op < y.Op:
			return -1
		case x.Op == y.Op && x.N != y.N && x.N < y.N:
			return -1
		case x.Op == y.Op && x.N == y.N && x.S != y.S && x.S < y.S:
			return -1
		case x.Op == y.Op && x.N == y.N && x.S == y.S && x.T < y.T:
			return -1
		}
		return 1
	}
	return 0
}

// leaves are the values of one node of which all others here are made.
func leaves() []value {
	return []value{truth(0), truth(1), num(-1), num(2), text("b"), ent("a", "b")}
}

// fieldNames are those that records here have, rising.
var fieldNames = [...]string{"B", "a", "aa"}

// made builds all values of at most most nodes, smaller ones first, from
// leaves and fieldNames, never asking the program.
func made(most int) []value {
	bySize := make([][]value, most+1)
	for n := 1; n <= most; n++ {
		smaller := slices.Concat(bySize[:n]...)
		slices.SortFunc(smaller, ahead)
		if n == 1 {
			bySize[n] = leaves()
		}
		bySize[n] = append(bySize[n], setsOf(nil, smaller, n-1)...)
		bySize[n] = append(bySize[n], recsOf(nil, 0, bySize, n-1)...)
	}
	return slices.Concat(bySize...)
}

// setsOf builds the sets that have parts, and others of the rest behind them,
// with just left more nodes.
func setsOf(parts, rest []value, left int) []value {
	if left == 0 {
		return []value{set(parts...)}
	}
	var all []value
	for i, v := range rest {
		if len(v) <= left {
			all = append(all, setsOf(append(slices.Clone(parts), v), rest[i+1:], left-len(v))...)
		}
	}
	return all
}

// recsOf builds the records that have fields, and others from a name on, with
// just left more nodes.
func recsOf(fields []value, from int, bySize [][]value, left int) []value {
	if left == 0 {
		return []value{rec(fields...)}
	}
	var all []value
	for i := from; i < len(fieldNames); i++ {
		for n := 1; n < left; n++ {
			for _, v := range bySize[n] {
				all = append(all, recsOf(append(slices.Clone(fields), field(fieldNames[i], v)), i+1, bySize, left-n-1)...)
			}
		}
	}
	return all
}

// VA1: of all short lists of some nodes just those are values that are made.
func TestCheckAllShortLists(t *testing.T) {
	const most = 5
	nodes := slices.Concat(leaves()...)
	for n := range most {
		nodes = append(nodes, api.Node{Op: api.Set, N: n})
	}
	for n := range most/2 + 1 {
		nodes = append(nodes, api.Node{Op: api.Rec, N: n})
	}
	for _, s := range fieldNames {
		nodes = append(nodes, api.Node{Op: api.Field, S: s})
	}
	values := map[string]bool{}
	for _, v := range made(most) {
		values[key(v)] = true
	}
	found := 0
	var try func(v value)
	try = func(v value) {
		// To name each list is slow: only what is told to be a value is named.
		if err := val.Check(v); err != nil {
			if plain.Told(err) != api.ErrSyntax {
				t.Errorf("Check of %s: error %v", shown(v), err)
			}
		} else if values[key(v)] {
			found++
		} else {
			t.Errorf("Check of %s: it is none", shown(v))
		}
		if len(v) == most || t.Failed() {
			return
		}
		for _, n := range nodes {
			try(append(slices.Clip(v), n))
		}
	}
	try(nil)
	if found != len(values) {
		t.Errorf("%d values found, want %d", found, len(values))
	}
}

// VA1: fields of a node that are not named are 0 or empty, at the head and
// within.
func TestCheckFields(t *testing.T) {
	for _, c := range []struct {
		v     value
		names string
	}{
		{truth(1), "N"}, {num(7), "N"}, {text("a"), "S"}, {ent("a", "b"), "ST"},
		{set(), ""}, {rec(), ""}, {set(num(1)), ""}, {rec(field("a", num(1))), ""},
	} {
		wantError(t, "Check of "+shown(c.v), val.Check(c.v), api.OK)
		for what, put := range map[string]func(n *api.Node){
			"N": func(n *api.Node) { n.N++ },
			"S": func(n *api.Node) { n.S += "x" },
			"T": func(n *api.Node) { n.T += "x" },
		} {
			v := slices.Clone(c.v)
			put(&v[0])
			want := api.ErrSyntax
			if strings.Contains(c.names, what) && !(v[0].Op == api.Bool && what == "N") {
				want = api.OK
			}
			for _, w := range []value{v, set(v), rec(field("q", v)), set(set(v))} {
				wantError(t, what+" put: Check of "+shown(w), val.Check(w), want)
			}
		}
	}
	for _, n := range []api.Node{{Op: api.Field, N: 1, S: "a"}, {Op: api.Field, S: "a", T: "b"}, {Op: api.Field}, {Op: api.Field, N: -1, S: "a"}} {
		v := append(value{{Op: api.Rec, N: 1}, n}, num(1)...)
		wantError(t, "Check of "+shown(v), val.Check(v), api.ErrSyntax)
	}
}

// VA1: no other node is of a value.
func TestCheckOps(t *testing.T) {
	ops := []int{math.MinInt, -1 << 32, math.MaxInt, 1<<32 + api.Num}
	for op := -50; op <= 300; op++ {
		ops = append(ops, op)
	}
	for _, op := range ops {
		want := api.ErrSyntax
		if op == api.Bool || op == api.Num || op == api.Text || op == api.Set || op == api.Rec {
			want = api.OK
		}
		for _, v := range []value{{{Op: op}}, set(value{{Op: op}})} {
			wantError(t, "Check of "+shown(v), val.Check(v), want)
		}
		want = api.ErrSyntax
		if op == api.Text || op == api.Ent {
			want = api.OK
		}
		v := value{{Op: op, S: "who"}}
		wantError(t, "Check of "+shown(v), val.Check(v), want)
	}
}

// VA1: what numbers, names and texts may be.
func TestCheckContents(t *testing.T) {
	long := strings.Repeat("a", api.MaxText)
	wide := strings.Repeat("a", api.MaxName)
	for _, c := range []struct {
		v    value
		want api.Errno
	}{
		{truth(2), api.ErrSyntax}, {truth(-1), api.ErrSyntax}, {truth(math.MinInt), api.ErrSyntax},
		{num(math.MaxInt), api.OK}, {num(math.MinInt), api.OK}, {num(0), api.OK},
		{text(""), api.OK}, {text(" ~\"\\"), api.OK}, {text(long), api.OK},
		{text(long + "a"), api.ErrSyntax}, {text("\x1f"), api.ErrSyntax}, {text("\x7f"), api.ErrSyntax}, {text("\u00e9"), api.ErrSyntax},
		{ent("a", ""), api.OK}, {ent(wide, long), api.OK}, {ent("_9", "\"\\"), api.OK},
		{ent("", "b"), api.ErrSyntax}, {ent("9", "b"), api.ErrSyntax}, {ent(wide+"a", "b"), api.ErrSyntax}, {ent("a-b", "b"), api.ErrSyntax},
		{ent("a", long+"a"), api.ErrSyntax}, {ent("a", "\n"), api.ErrSyntax},
		{rec(field(wide, num(1))), api.OK}, {rec(field(wide+"a", num(1))), api.ErrSyntax}, {rec(field("a b", num(1))), api.ErrSyntax},
		{rec(field("B", num(1)), field("_", num(1)), field("a", num(1)), field("aa", num(1)), field("b", num(1))), api.OK},
		{rec(field("a", num(1)), field("B", num(1))), api.ErrSyntax},
		{rec(field("aa", num(1)), field("a", num(1))), api.ErrSyntax},
		{rec(field("a", num(1)), field("a", num(2))), api.ErrSyntax},
		{rec(field("a", num(1)), num(2)), api.ErrSyntax},
		{rec(num(1)), api.ErrSyntax}, {set(field("a", num(1))), api.ErrSyntax}, {field("a", num(1)), api.ErrSyntax},
		{rec(field("a", field("b", num(1)))), api.ErrSyntax},
		{set(num(math.MinInt), num(math.MaxInt)), api.OK}, {set(num(math.MaxInt), num(math.MinInt)), api.ErrSyntax},
		{set(num(1), num(1)), api.ErrSyntax}, {set(text("a"), text("")), api.ErrSyntax}, {set(ent("a", "c"), ent("a", "b")), api.ErrSyntax},
		{set(ent("a", "c"), ent("b", "b")), api.OK}, {set(num(9), text("a"), ent("a", "a"), set(), rec()), api.OK},
		{set(set(num(9)), set(num(1), num(2))), api.OK}, {set(set(num(1), num(2)), set(num(9))), api.ErrSyntax},
		{set(set(num(2), num(1))), api.ErrSyntax},
		{nil, api.ErrSyntax}, {value{}, api.ErrSyntax}, {slices.Concat(num(1), num(2)), api.ErrSyntax},
	} {
		wantError(t, "Check of "+shown(c.v), val.Check(c.v), c.want)
	}
}

// VA1: how many nodes there may be; ErrFull comes ahead of ErrSyntax.
func TestCheckLengths(t *testing.T) {
	for _, c := range []struct {
		what string
		v    value
		want api.Errno
	}{
		{"a full set", set(nums(-5, api.MaxNodes-1)...), api.OK},
		{"a set with one too many", set(nums(-5, api.MaxNodes)...), api.ErrFull},
		{"a full set in disorder", set(slices.Concat(nums(0, api.MaxNodes-2), nums(0, 1))...), api.ErrSyntax},
		{"a deep one", deep(api.MaxNodes - 1), api.OK},
		{"one too deep", deep(api.MaxNodes), api.ErrFull},
		{"one far too deep", deep(1 << 22), api.ErrFull},
		{"nodes of nothing", make(value, api.MaxNodes), api.ErrSyntax},
		{"too many nodes of nothing", make(value, api.MaxNodes+1), api.ErrFull},
		{"heads alone", deep(api.MaxNodes)[:api.MaxNodes], api.ErrSyntax},
	} {
		wantError(t, "Check of "+c.what, val.Check(c.v), c.want)
	}
	for _, n := range []int{math.MinInt, math.MinInt + 1, -1 << 32, -2, -1, 2, 3, 1 << 32, 1<<32 + 1, math.MaxInt} {
		for _, op := range []int{api.Set, api.Rec} {
			for _, behind := range []value{nil, num(1), field("a", num(1))} {
				v := append(value{{Op: op, N: n}}, behind...)
				for _, w := range []value{v, set(v), rec(field("a", v)), set(v, num(1))} {
					wantError(t, "Check of "+shown(w), val.Check(w), api.ErrSyntax)
				}
			}
		}
	}
}

// VA2: the order of all small values, and of such as differ in one thing.
func TestCompare(t *testing.T) {
	vs := append(made(3),
		num(math.MinInt), num(math.MaxInt), num(0), text(""), text("a"), text("ab"), text("a b"), text("B"), text("~"),
		ent("a", ""), ent("a", "a"), ent("a", "bb"), ent("aa", ""), ent("B", "z"), ent("_", " "),
		set(num(math.MinInt), num(math.MaxInt)), set(num(0), text("x")), rec(field("a", set()), field("b", set())),
		rec(field("a", num(9)), field("b", num(1))), rec(field("a", num(9)), field("b", num(2))), rec(field("a", num(9)), field("c", num(1))))
	for _, a := range vs {
		for _, b := range vs {
			got, err := val.Compare(a, b)
			if err != nil || got != ahead(a, b) {
				t.Fatalf("Compare of %s and %s: got %d, %v, want %d", shown(a), shown(b), got, err, ahead(a, b))
			}
		}
	}
	for _, c := range []struct {
		a, b value
		want int
	}{
		{num(5), truth(1), 1}, {num(-5), num(5), -1}, {num(math.MinInt), num(math.MaxInt), -1}, {text("a"), text("aa"), -1},
		{text("b"), text("aa"), 1}, {text("Z"), text("a"), -1}, {ent("a", "z"), ent("b", "a"), -1}, {ent("a", "z"), ent("a", "y"), 1},
		{set(num(9)), set(num(1), num(2)), -1}, {rec(), set(num(1)), 1}, {rec(field("a", num(2))), rec(field("b", num(1))), -1},
		{set(rec(), rec(field("a", num(2)))), set(rec(), rec(field("a", num(1)))), 1}, {set(), set(), 0},
	} {
		got, err := val.Compare(c.a, c.b)
		wantError(t, "Compare", err, api.OK)
		if got != c.want {
			t.Errorf("Compare of %s and %s: got %d, want %d", shown(c.a), shown(c.b), got, c.want)
		}
	}
}

// VA2: what is wrong with a is told ahead of what is wrong with b.
func TestCompareErrors(t *testing.T) {
	full, none := make(value, api.MaxNodes+1), set(num(2), num(1))
	for _, c := range []struct {
		a, b value
		want api.Errno
	}{
		{full, num(1), api.ErrFull}, {num(1), full, api.ErrFull}, {none, num(1), api.ErrSyntax}, {num(1), none, api.ErrSyntax},
		{full, none, api.ErrFull}, {none, full, api.ErrSyntax}, {nil, full, api.ErrSyntax}, {none, none, api.ErrSyntax}, {nil, nil, api.ErrSyntax},
	} {
		got, err := val.Compare(c.a, c.b)
		wantError(t, "Compare of "+shown(c.a)+" and "+shown(c.b), err, c.want)
		if got != 0 {
			t.Errorf("Compare tells %d with an error", got)
		}
	}
}

// VA3: sets of all short lists of some values: each once, in order.
func TestSetOf(t *testing.T) {
	pool := append(leaves(), set(), set(num(2)), rec(), rec(field("a", num(2))), rec(field("aa", num(-1))), text(""))
	var try func(vs []value)
	try = func(vs []value) {
		want := clone(vs)
		slices.SortFunc(want, ahead)
		want = slices.CompactFunc(want, slices.Equal)
		given := clone(vs)
		got, err := val.SetOf(given)
		wantValue(t, "SetOf of "+shown(vs), got, err, set(want...), api.OK)
		wantError(t, "Check of SetOf of "+shown(vs), val.Check(got), api.OK)
		spoil(got)
		wantSame(t, "SetOf", given, vs)
		if len(vs) < 4 && !t.Failed() {
			for _, v := range pool {
				try(append(slices.Clip(vs), v))
			}
		}
	}
	try(nil)
}

// spoil writes into all of a list's memory that its owner may write into.
func spoil(v value) {
	v = v[:cap(v)]
	for i := range v {
		v[i] = api.Node{Op: -1, S: "spoilt"}
	}
}

// wantSame fails if a call, or writing into its answer, changed what was
// handed in.
func wantSame(t *testing.T, call string, given, before []value) {
	t.Helper()
	if !slices.EqualFunc(given, before, slices.Equal) {
		t.Errorf("%s: what was handed in is now %s, was %s", call, shown(given), shown(before))
	}
}

// VA3: how great a set may be, and what is wrong with its values, one by one.
func TestSetOfErrors(t *testing.T) {
	full, none := make(value, api.MaxNodes+1), set(num(2), num(1))
	most := nums(-7, api.MaxNodes-1)
	shuffled := slices.Concat(most[90:], most[:90], most)
	for _, c := range []struct {
		what  string
		vs    []value
		want  value
		wrong api.Errno
	}{
		{"as many as may be", most, set(most...), api.OK},
		{"as many as may be, some twice", shuffled, set(most...), api.OK},
		{"one too many", nums(-7, api.MaxNodes), nil, api.ErrFull},
		{"one node too many, in parts", []value{set(nums(0, 99)...), set(nums(1, 99)...)}, nil, api.ErrFull},
		{"no node too many, in parts", []value{set(nums(1, 99)...), set(nums(0, 98)...)}, set(set(nums(0, 98)...), set(nums(1, 99)...)), api.OK},
		{"a value that fills all", []value{set(most...)}, nil, api.ErrFull},
		{"the same great value, often", []value{deep(150), deep(150), deep(150)}, set(deep(150)), api.OK},
		{"a list too long", []value{num(1), full}, nil, api.ErrFull},
		{"no value", []value{num(1), none}, nil, api.ErrSyntax},
		{"an empty one", []value{num(1), nil}, nil, api.ErrSyntax},
		{"no value ahead of a list too long", []value{none, full}, nil, api.ErrSyntax},
		{"a list too long ahead of no value", []value{full, none}, nil, api.ErrFull},
		{"no value behind too many", append(nums(0, api.MaxNodes+5), none), nil, api.ErrSyntax},
		{"a field", []value{field("a", num(1))}, nil, api.ErrSyntax},
	} {
		before := clone(c.vs)
		got, err := val.SetOf(c.vs)
		wantValue(t, "SetOf of "+c.what, got, err, c.want, c.wrong)
		wantSame(t, "SetOf of "+c.what, c.vs, before)
	}
}

// VA3: records of all orders of some fields.
func TestRecOf(t *testing.T) {
	names := []string{"B", "_", "a", "a0", "aa", "b"}
	vs := []value{num(2), rec(field("z", num(1))), truth(0), set(num(1), num(2)), num(2), set()}
	var try func(picked []int)
	try = func(picked []int) {
		var someNames []string
		var someValues, fields []value
		for _, i := range picked {
			someNames, someValues = append(someNames, names[i]), append(someValues, slices.Clone(vs[i]))
		}
		for _, i := range slices.Sorted(slices.Values(picked)) {
			fields = append(fields, field(names[i], vs[i]))
		}
		namesBefore, before := slices.Clone(someNames), clone(someValues)
		got, err := val.RecOf(someNames, someValues)
		wantValue(t, "RecOf of "+shown(someNames), got, err, rec(fields...), api.OK)
		wantError(t, "Check of RecOf of "+shown(someNames), val.Check(got), api.OK)
		spoil(got)
		wantSame(t, "RecOf", someValues, before)
		if !slices.Equal(someNames, namesBefore) {
			t.Errorf("RecOf changed the names to %q, were %q", someNames, namesBefore)
		}
		for i := range names {
			if !slices.Contains(picked, i) && !t.Failed() {
				try(append(slices.Clip(picked), i))
			}
		}
	}
	try(nil)
}

// VA3: what is wrong with a record: the numbers first, then one by one the
// name, ErrTwice and the value, and how great it is at last.
func TestRecOfErrors(t *testing.T) {
	full, none := make(value, api.MaxNodes+1), set(num(2), num(1))
	wide := strings.Repeat("a", api.MaxName)
	good := num(1)
	var many []string
	for i := range 150 {
		many = append(many, fmt.Sprintf("n%03d", i))
	}
	for _, c := range []struct {
		what  string
		names []string
		vs    []value
		wrong api.Errno
	}{
		{"a name too many", []string{"a", "b"}, []value{good}, api.ErrSyntax},
		{"a value too many", []string{"a"}, []value{good, good}, api.ErrSyntax},
		{"names alone", []string{"a"}, nil, api.ErrSyntax},
		{"values alone", nil, []value{full}, api.ErrSyntax},
		{"a value too many, and a name too long", []string{wide + "a"}, []value{good, good}, api.ErrSyntax},
		{"a name too many, and one twice", []string{"a", "a"}, []value{good}, api.ErrSyntax},
		{"a long name", []string{wide}, []value{good}, api.OK},
		{"a name too long", []string{wide + "a"}, []value{good}, api.ErrFull},
		{"no name", []string{""}, []value{good}, api.ErrSyntax},
		{"a wrong name", []string{"a", "b-"}, []value{good, good}, api.ErrSyntax},
		{"a name too long ahead of no value", []string{wide + "a"}, []value{none}, api.ErrFull},
		{"a wrong name ahead of a list too long", []string{"-"}, []value{full}, api.ErrSyntax},
		{"a name twice", []string{"a", "b", "a"}, []value{good, good, good}, api.ErrTwice},
		{"a name twice, its value none", []string{"a", "a"}, []value{good, none}, api.ErrTwice},
		{"a name twice behind no value", []string{"a", "b", "a"}, []value{good, none, good}, api.ErrSyntax},
		{"no value at the name that comes twice", []string{"a", "a"}, []value{none, good}, api.ErrSyntax},
		{"a name twice ahead of no value", []string{"a", "a", "b"}, []value{good, good, none}, api.ErrTwice},
		{"a wrong name, twice", []string{"-", "-"}, []value{good, good}, api.ErrSyntax},
		{"no value", []string{"a"}, []value{none}, api.ErrSyntax},
		{"an empty value", []string{"a"}, []value{nil}, api.ErrSyntax},
		{"a list too long", []string{"a"}, []value{full}, api.ErrFull},
		{"no value ahead of a name too long", []string{"a", wide + "a"}, []value{none, good}, api.ErrSyntax},
		{"a list too long ahead of a wrong name", []string{"a", "-"}, []value{full, good}, api.ErrFull},
		{"as many as may be", many[:99], nums(0, 99), api.OK},
		{"one too many", many[:100], nums(0, 100), api.ErrFull},
		{"as great as may be", []string{"a"}, []value{deep(197)}, api.OK},
		{"too great by one node", []string{"a"}, []value{deep(198)}, api.ErrFull},
		{"too many, and one twice", append(slices.Clone(many), "n000"), nums(0, 151), api.ErrTwice},
		{"too many, and no value", append(slices.Clone(many), "z"), append(nums(0, 150), none), api.ErrSyntax},
	} {
		got, err := val.RecOf(c.names, c.vs)
		wantError(t, "RecOf of "+c.what, err, c.wrong)
		if (c.wrong != api.OK) != (len(got) == 0) {
			t.Errorf("RecOf of %s: got %s", c.what, shown(got))
		}
	}
}

// VA4: the parts of what is made of them, and what is told by each name.
func TestPartsAndGet(t *testing.T) {
	for _, v := range made(4) {
		given := slices.Clone(v)
		parts, err := val.Parts(given)
		want, names := taken(v)
		switch v[0].Op {
		case api.Set, api.Rec:
			wantError(t, "Parts of "+shown(v), err, api.OK)
		default:
			wantError(t, "Parts of "+shown(v), err, api.ErrType)
		}
		wantSame(t, "Parts of "+shown(v), parts, want)
		for i := range parts {
			spoil(parts[i])
			wantSame(t, "writing into a part", append([]value{given}, parts[i+1:]...), append([]value{v}, want[i+1:]...))
		}
		for _, s := range append([]string{"", "A", "b", "aaa", "-"}, fieldNames[:]...) {
			got, err := val.Get(given, s)
			wanted, wrong := value(nil), api.ErrNone
			if v[0].Op != api.Rec {
				wrong = api.ErrType
			} else if i := slices.Index(names, s); i >= 0 {
				wanted, wrong = want[i], api.OK
			}
			wantValue(t, fmt.Sprintf("Get %q of %s", s, shown(v)), got, err, wanted, wrong)
			spoil(got)
			wantSame(t, "writing into what Get tells", []value{given}, []value{v})
		}
		if t.Failed() {
			return
		}
	}
}

// taken takes a value apart by going down into each of its parts.
func taken(v value) (parts []value, names []string) {
	if v[0].Op != api.Set && v[0].Op != api.Rec {
		return nil, nil
	}
	at := 1
	for range v[0].N {
		if v[0].Op == api.Rec {
			names = append(names, v[at].S)
			at++
		}
		end := behind(v, at)
		parts = append(parts, v[at:end])
		at = end
	}
	return parts, names
}

// behind tells where the item that begins at a place of a value ends.
func behind(v value, at int) int {
	n := v[at]
	at++
	switch n.Op {
	case api.Field:
		return behind(v, at)
	case api.Set, api.Rec:
		for range n.N {
			at = behind(v, at)
		}
	}
	return at
}

// VA4: deep and wide ones, where names of the inner records are not told.
func TestPartsAndGetWithin(t *testing.T) {
	inner := rec(field("a", num(1)), field("q", num(2)))
	v := rec(field("a", inner), field("b", set(inner, rec(field("a", num(9)), field("z", set())))), field("z", text("end")))
	for s, want := range map[string]value{"a": inner, "b": set(inner, rec(field("a", num(9)), field("z", set()))), "z": text("end"), "q": nil} {
		wrong := api.OK
		if want == nil {
			wrong = api.ErrNone
		}
		got, err := val.Get(v, s)
		wantValue(t, "Get "+s, got, err, want, wrong)
	}
	got, err := val.Parts(set(nums(0, api.MaxNodes-1)...))
	wantError(t, "Parts", err, api.OK)
	wantSame(t, "Parts of a full set", got, nums(0, api.MaxNodes-1))
	got, err = val.Parts(deep(api.MaxNodes - 1))
	wantError(t, "Parts", err, api.OK)
	wantSame(t, "Parts of a deep set", got, []value{deep(api.MaxNodes - 2)})
}

// VA4: Check comes ahead of ErrType and of ErrNone.
func TestPartsAndGetErrors(t *testing.T) {
	for _, c := range []struct {
		v    value
		want api.Errno
	}{
		{nil, api.ErrSyntax}, {slices.Concat(num(1), num(2)), api.ErrSyntax}, {set(num(2), num(1)), api.ErrSyntax},
		{field("a", num(1)), api.ErrSyntax}, {rec(field("a", num(1)), field("a", num(2))), api.ErrSyntax},
		{make(value, api.MaxNodes+1), api.ErrFull}, {set(nums(0, api.MaxNodes)...), api.ErrFull},
		{truth(1), api.ErrType}, {num(5), api.ErrType}, {text("a"), api.ErrType}, {ent("a", "a"), api.ErrType},
	} {
		parts, err := val.Parts(c.v)
		wantError(t, "Parts of "+shown(c.v), err, c.want)
		if len(parts) != 0 {
			t.Errorf("Parts of %s: %s with an error", shown(c.v), shown(parts))
		}
		got, err := val.Get(c.v, "a")
		wantValue(t, "Get of "+shown(c.v), got, err, nil, c.want)
	}
}

// P4: what lies behind a list's length is neither read nor written.
func TestBehindTheLength(t *testing.T) {
	memory := slices.Concat(set(num(1)), num(2), num(3))
	before := slices.Clone(memory)
	wantError(t, "Check of a set without its part", val.Check(memory[:1]), api.ErrSyntax)
	wantError(t, "Check of a set with its part", val.Check(memory[:2]), api.OK)
	vs := []value{memory[2:3], memory[:2], memory[2:3], memory[1:2]}
	got, err := val.SetOf(vs[:2])
	wantValue(t, "SetOf", got, err, set(num(2), set(num(1))), api.OK)
	got, err = val.RecOf([]string{"b", "a"}, vs[:2])
	wantValue(t, "RecOf", got, err, rec(field("a", set(num(1))), field("b", num(2))), api.OK)
	parts, err := val.Parts(memory[:2])
	wantError(t, "Parts", err, api.OK)
	_ = append(parts[0], api.Node{Op: -1})
	wantSame(t, "what lies behind", []value{memory}, []value{before})
	wantSame(t, "what lies behind", vs, []value{num(2), set(num(1)), num(2), num(1)})
}
