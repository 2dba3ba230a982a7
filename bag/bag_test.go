package bag_test

import (
	"fmt"
	"slices"
	"testing"

	"wicketgate/api"
	"wicketgate/bag"
	"wicketgate/plain"
)

// value is short for what every call here is about.
type value = []api.Node

// asks are the calls that tell yes or no of two sets.
func asks() map[string]func(s, t value) (bool, error) {
	return map[string]func(s, t value) (bool, error){"All": bag.All, "Any": bag.Any}
}

// makes are the calls that make a set of two sets.
func makes() map[string]func(s, t value) (value, error) {
	return map[string]func(s, t value) (value, error){"Union": bag.Union, "Meet": bag.Meet, "Less": bag.Less}
}

// wantBool fails unless these are the answer and the error that are wanted.
func wantBool(t *testing.T, call string, got bool, err error, want bool, wrong api.Errno) {
	t.Helper()
	if got != want || plain.Told(err) != wrong {
		t.Errorf("%s: got %v and %v, want %v and %v", call, got, err, want, wrong)
	}
}

// wantValue fails unless these are the value and the error that are wanted.
func wantValue(t *testing.T, call string, got value, err error, want value, wrong api.Errno) {
	t.Helper()
	if !slices.Equal(got, want) || plain.Told(err) != wrong {
		t.Errorf("%s: got %s and %v, want %s and %v", call, shown(got), err, shown(want), wrong)
	}
}

// shown has no more of a thing than a message can bear.
func shown(x any) string {
	s := fmt.Sprintf("%+q", fmt.Sprint(x))
	if len(s) > 200 {
		s = s[:200] + "..."
	}
	return s
}

// Short forms of values.

func truth(n int) value     { return value{{Op: api.Bool, N: n}} }
func num(n int) value       { return value{{Op: api.Num, N: n}} }
func text(s string) value   { return value{{Op: api.Text, S: s}} }
func ent(s, t string) value { return value{{Op: api.Ent, S: s, T: t}} }

// set is as the parts are handed in: it may be none.
func set(parts ...value) value {
	return append(value{{Op: api.Set, N: len(parts)}}, slices.Concat(parts...)...)
}

// rec is a record with one field.
func rec(s string, part value) value {
	return append(value{{Op: api.Rec, N: 1}, {Op: api.Field, S: s}}, part...)
}

// nums is the set of so many numbers that rise.
func nums(from, count int) value {
	v := set()
	v[0].N = count
	for i := range count {
		v = append(v, num(from+i)...)
	}
	return v
}

// ranks are values of all kinds, in order, some of them alike but for one
// field of one node; a set of them is a row of bits.
func ranks() []value {
	return []value{
		truth(0), num(-1), num(1), text(""), text("a"), ent("A", "a"), ent("A", "b"), ent("B", "a"),
		set(), set(num(1)), rec("a", num(1)), rec("a", set()),
	}
}

// setOf is the set of those ranks of which the bit is 1.
func setOf(bits int) value {
	var parts []value
	for i, v := range ranks() {
		if bits>>i&1 == 1 {
			parts = append(parts, v)
		}
	}
	return set(parts...)
}

// somePairs calls do with pairs of rows of bits: all where a set is one of
// the first few ranks, or a picked one of them all.
func somePairs(do func(s, t int)) {
	all := 1<<len(ranks()) - 1
	picked := []int{all, 0x555, 0xaaa, 0x0f0, 0xf0f, 0x888, 0x777, 1 << 11, 1 << 10, 1 << 9, 1 << 8, all - 1<<11}
	for few := range 1 << 5 {
		picked = append(picked, few, few<<4, few<<7)
	}
	for _, s := range picked {
		for _, t := range picked {
			do(s, t)
		}
	}
}

// BA1: Has tells if a value is a part, and not what stands deeper or is alike.
func TestHas(t *testing.T) {
	for bits := range 1 << len(ranks()) {
		s := setOf(bits)
		for i, v := range ranks() {
			got, err := bag.Has(s, v)
			wantBool(t, fmt.Sprintf("Has(%s, %s)", shown(s), shown(v)), got, err, bits>>i&1 == 1, api.OK)
		}
	}
	for _, c := range []struct {
		s, v value
		want bool
	}{
		{set(set(num(1))), num(1), false},
		{set(set(num(1))), set(num(1)), true},
		{set(num(1)), set(num(1)), false},
		{set(), set(), false},
		{set(set()), set(), true},
		{set(num(1)), truth(1), false},
		{set(text("ab")), text("a"), false},
		{set(text("A")), text("a"), false},
		{set(ent("A", "a")), ent("a", "A"), false},
		{set(num(1), num(2)), set(num(1), num(2)), false},
		{set(rec("a", num(1))), rec("b", num(1)), false},
		{set(rec("a", num(1))), rec("a", num(2)), false},
		{nums(0, 199), num(0), true},
		{nums(0, 199), num(198), true},
		{nums(0, 199), num(199), false},
		{set(nums(0, 198)), nums(0, 198), true},
		{set(nums(0, 198)), nums(1, 198), false},
		{nums(0, 199), nums(0, 199), false},
	} {
		got, err := bag.Has(c.s, c.v)
		wantBool(t, fmt.Sprintf("Has(%s, %s)", shown(c.s), shown(c.v)), got, err, c.want, api.OK)
	}
}

// BA1: All and Any, held against rows of bits.
func TestAllAny(t *testing.T) {
	somePairs(func(a, b int) {
		call := fmt.Sprintf("(%#x, %#x)", a, b)
		all, err := bag.All(setOf(a), setOf(b))
		wantBool(t, "All"+call, all, err, b&^a == 0, api.OK)
		some, err := bag.Any(setOf(a), setOf(b))
		wantBool(t, "Any"+call, some, err, a&b != 0, api.OK)
	})
}

// BA1: the greatest sets that there are.
func TestAllAnyGreat(t *testing.T) {
	for _, c := range []struct {
		s, t      value
		all, some bool
	}{
		{nums(0, 199), nums(0, 199), true, true},
		{nums(0, 199), nums(1, 199), false, true},
		{nums(0, 199), nums(198, 199), false, true},
		{nums(0, 199), nums(199, 199), false, false},
		{nums(0, 199), nums(0, 0), true, false},
		{nums(0, 0), nums(0, 199), false, false},
		{nums(0, 199), nums(100, 99), true, true},
	} {
		call := fmt.Sprintf("(%s, %s)", shown(c.s), shown(c.t))
		got, err := bag.All(c.s, c.t)
		wantBool(t, "All"+call, got, err, c.all, api.OK)
		got, err = bag.Any(c.s, c.t)
		wantBool(t, "Any"+call, got, err, c.some, api.OK)
	}
}

// BA2: Union, Meet and Less, held against rows of bits.
func TestUnionMeetLess(t *testing.T) {
	somePairs(func(a, b int) {
		call := fmt.Sprintf("(%#x, %#x)", a, b)
		got, err := bag.Union(setOf(a), setOf(b))
		wantValue(t, "Union"+call, got, err, setOf(a|b), api.OK)
		got, err = bag.Meet(setOf(a), setOf(b))
		wantValue(t, "Meet"+call, got, err, setOf(a&b), api.OK)
		got, err = bag.Less(setOf(a), setOf(b))
		wantValue(t, "Less"+call, got, err, setOf(a&^b), api.OK)
	})
}

// BA2: ErrFull counts the nodes of what is made, once for what both have.
func TestUnionFull(t *testing.T) {
	wide := func(from, count int) value {
		var parts []value
		for i := range count {
			parts = append(parts, rec("a", num(from+i)))
		}
		return set(parts...)
	}
	for _, c := range []struct {
		s, t, want value
		wrong      api.Errno
	}{
		{nums(0, 100), nums(100, 99), nums(0, 199), api.OK},
		{nums(100, 99), nums(0, 100), nums(0, 199), api.OK},
		{nums(0, 100), nums(100, 100), nil, api.ErrFull},
		{nums(100, 100), nums(0, 100), nil, api.ErrFull},
		{nums(0, 199), nums(0, 199), nums(0, 199), api.OK},
		{nums(0, 199), nums(1, 199), nil, api.ErrFull},
		{nums(0, 199), nums(1, 198), nums(0, 199), api.OK},
		{nums(0, 199), set(), nums(0, 199), api.OK},
		{set(), nums(0, 199), nums(0, 199), api.OK},
		{nums(0, 199), nums(1000, 199), nil, api.ErrFull},
		{wide(0, 66), wide(0, 66), wide(0, 66), api.OK},
		{wide(0, 33), wide(33, 33), wide(0, 66), api.OK},
		{wide(0, 33), wide(33, 34), nil, api.ErrFull},
		{set(nums(0, 198)), set(num(1)), nil, api.ErrFull},
		{set(nums(0, 197)), set(num(1)), set(num(1), nums(0, 197)), api.OK},
	} {
		got, err := bag.Union(c.s, c.t)
		wantValue(t, fmt.Sprintf("Union(%s, %s)", shown(c.s), shown(c.t)), got, err, c.want, c.wrong)
	}
	got, err := bag.Meet(nums(0, 199), nums(150, 199))
	wantValue(t, "Meet of great ones", got, err, nums(150, 49), api.OK)
	got, err = bag.Less(nums(0, 199), nums(150, 199))
	wantValue(t, "Less of great ones", got, err, nums(0, 150), api.OK)
	got, err = bag.Less(nums(0, 199), nums(1000, 199))
	wantValue(t, "Less of others", got, err, nums(0, 199), api.OK)
}

// BA1, BA2: what is no value, or no set, in each place, and which is told.
func TestWrong(t *testing.T) {
	const none, syntax, full = api.ErrType, api.ErrSyntax, api.ErrFull
	good, other := nums(0, 2), rec("a", num(1))
	bad, great := set(num(2), num(1)), nums(0, 200)
	greatBad := slices.Repeat(value{{Op: 99}}, 201)
	for _, c := range []struct {
		s, t       value
		has, wrong api.Errno
	}{
		{good, good, api.OK, api.OK},
		{good, other, api.OK, none},
		{other, good, none, none},
		{other, other, none, none},
		{num(1), good, none, none},
		{good, num(7), api.OK, none},
		{truth(1), good, none, none},
		{text("a"), good, none, none},
		{ent("a", "b"), good, none, none},
		{good, truth(0), api.OK, none},
		{good, text("a"), api.OK, none},
		{good, ent("a", "b"), api.OK, none},
		{value{{Op: api.Rec}}, good, none, none},
		{good, value{{Op: api.Rec}}, api.OK, none},
		{nil, good, syntax, syntax},
		{good, nil, syntax, syntax},
		{nil, nil, syntax, syntax},
		{value{}, good, syntax, syntax},
		{bad, good, syntax, syntax},
		{good, bad, syntax, syntax},
		{great, good, full, full},
		{good, great, full, full},
		{greatBad, good, full, full},
		// The first one is looked at first.
		{bad, great, syntax, syntax},
		{great, bad, full, full},
		// Both are values ahead of either being no set.
		{num(1), bad, syntax, syntax},
		{num(1), great, full, full},
		{other, nil, syntax, syntax},
		{bad, num(1), syntax, syntax},
		{great, other, full, full},
		{set(num(1), num(1)), good, syntax, syntax},
		{value{{Op: api.Set, N: -1}}, good, syntax, syntax},
		{value{{Op: api.Set, N: 1 << 62}}, good, syntax, syntax},
		{append(nums(0, 2), num(7)...), good, syntax, syntax},
		{good, value{{Op: api.Var, S: "who"}}, syntax, syntax},
	} {
		call := fmt.Sprintf("(%s, %s)", shown(c.s), shown(c.t))
		got, err := bag.Has(c.s, c.t)
		wantBool(t, "Has"+call, got, err, false, c.has)
		if c.wrong == api.OK {
			continue
		}
		for name, ask := range asks() {
			got, err := ask(c.s, c.t)
			wantBool(t, name+call, got, err, false, c.wrong)
		}
		for name, combine := range makes() {
			got, err := combine(c.s, c.t)
			wantValue(t, name+call, got, err, nil, c.wrong)
			if got != nil && len(got) == 0 {
				t.Errorf("%s%s: empty, want nil", name, call)
			}
		}
	}
}

// P2, P4: what is handed in is left as it is, behind its length too, and what
// comes out shares no memory with it.
func TestMemory(t *testing.T) {
	spare := value{{Op: 77, S: "spare"}, {Op: 78, T: "spare"}}
	whole := func(v value) (value, value) {
		w := append(slices.Clone(v), spare...)
		return w, w[:len(v)]
	}
	for _, c := range [][2]int{{0x5f3, 0xf0f}, {0xfff, 0}, {0, 0xfff}, {0xfff, 0xfff}, {0x888, 0x888}, {0, 0}} {
		for name, combine := range makes() {
			wholeS, s := whole(setOf(c[0]))
			wholeT, u := whole(setOf(c[1]))
			got, err := combine(s, u)
			if err != nil {
				t.Fatalf("%s: %v", name, err)
			}
			for i := range got[:cap(got)] {
				got[:cap(got)][i] = api.Node{Op: 5, N: 5, S: "x", T: "x"}
			}
			for name, ask := range asks() {
				if _, err := ask(s, u); err != nil {
					t.Fatalf("%s: %v", name, err)
				}
			}
			if _, err := bag.Has(s, u); err != nil {
				t.Fatalf("Has: %v", err)
			}
			if !slices.Equal(wholeS, append(setOf(c[0]), spare...)) || !slices.Equal(wholeT, append(setOf(c[1]), spare...)) {
				t.Errorf("%s of %#x and %#x: what was handed in was written into", name, c[0], c[1])
			}
		}
		// One list handed in twice.
		_, s := whole(setOf(c[0]))
		got, err := bag.Union(s, s)
		wantValue(t, "Union of one list twice", got, err, setOf(c[0]), api.OK)
	}
}
