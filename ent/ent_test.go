package ent_test

import (
	"fmt"
	"math"
	"reflect"
	"slices"
	"strings"
	"testing"

	"wicketgate/api"
	"wicketgate/ent"
	"wicketgate/plain"
)

// Short forms of what a store is made of.
type (
	value  = []api.Node
	uid    = api.Uid
	entity = api.Entity
)

// wantTold fails unless this is the error that is wanted.
func wantTold(t *testing.T, call string, err error, want api.Errno) {
	t.Helper()
	if plain.Told(err) != want {
		t.Errorf("%s: got %v, want %v", call, err, want)
	}
}

// wantUids fails unless these are the uids and the error that are wanted.
func wantUids(t *testing.T, call string, got []uid, err error, want []uid, wrong api.Errno) {
	t.Helper()
	if !slices.Equal(got, want) || plain.Told(err) != wrong {
		t.Errorf("%s: got %s and %v, want %s and %v", call, shown(got), err, shown(want), wrong)
	}
}

// wantBool fails unless these are the answer and the error that are wanted.
func wantBool(t *testing.T, call string, got bool, err error, want bool, wrong api.Errno) {
	t.Helper()
	if got != want || plain.Told(err) != wrong {
		t.Errorf("%s: got %v and %v, want %v and %v", call, got, err, want, wrong)
	}
}

// wantValue fails unless these are the value and the error that are wanted.
func wantValue(t *testing.T, call string, got value, err error, want value, wrong api.Errno) {
	t.Helper()
	if !slices.Equal(got, want) || plain.Told(err) != wrong {
		t.Errorf("%s: got %s and %v, want %s and %v", call, shown(got), err, shown(want), wrong)
	}
}

// shown has no more of a thing than a message can bear.
func shown(x any) string {
	s := fmt.Sprintf("%+q", fmt.Sprint(x))
	if len(s) > 200 {
		s = s[:200] + "..."
	}
	return s
}

// id is a uid of type A.
func id(s string) uid { return uid{Type: "A", Id: s} }

// ids are uids of type A.
func ids(names ...string) []uid {
	var list []uid
	for _, s := range names {
		list = append(list, id(s))
	}
	return list
}

func none() value { return value{{Op: api.Rec}} }

// rec is a record with one number.
func rec(s string, n int) value {
	return value{{Op: api.Rec, N: 1}, {Op: api.Field, S: s}, {Op: api.Num, N: n}}
}

// one is an entity with an empty record, below those of type A.
func one(s string, up ...string) entity {
	return entity{Uid: id(s), Up: ids(up...), Attrs: none()}
}

// many are so many entities that have nothing to do with each other.
func many(count int) []entity {
	var es []entity
	for i := range count {
		es = append(es, one(fmt.Sprint(i)))
	}
	return es
}

// chain are so many entities, each one below the next, in that order.
func chain(count int) []entity {
	var es []entity
	for i := range count {
		es = append(es, one(fmt.Sprintf("%02d", i), fmt.Sprintf("%02d", i+1)))
	}
	return es
}

// bigRec is a record with so many nodes, 3 of them at least.
func bigRec(nodes int) value {
	v := value{{Op: api.Rec, N: 1}, {Op: api.Field, S: "a"}, {Op: api.Set, N: nodes - 3}}
	for i := range nodes - 3 {
		v = append(v, api.Node{Op: api.Num, N: i})
	}
	return v
}

// EN1: stores that may be, among them those at the edges.
func TestCheckMayBe(t *testing.T) {
	for name, es := range map[string][]entity{
		"nothing":               nil,
		"an empty list":         {},
		"one":                   many(1),
		"16":                    many(16),
		"16 in a chain":         chain(16),
		"6 above":               {one("a", "b", "c", "d", "e", "f", "g")},
		"6 above, in the store": append([]entity{one("x", "0", "1", "2", "3", "4", "5")}, many(6)...),
		"two ways up":           {one("a", "b", "c"), one("b", "d"), one("c", "d"), one("d")},
		"a short way up too":    {one("a", "b", "c"), one("b", "c"), one("c")},
		"up outside, twice":     {one("a", "x"), one("b", "x")},
		"up behind":             {one("a", "b"), one("b")},
		"up ahead":              {one("b"), one("a", "b")},
		"empty ids":             {one("", "a"), one("a")},
		"same id, other type":   {one("a"), {Uid: uid{Type: "B", Id: "a"}, Up: ids("a"), Attrs: none()}},
		"up of the same id":     {{Uid: id("a"), Up: []uid{{Type: "B", Id: "a"}, {Type: "C", Id: "a"}}, Attrs: none()}},
		"upper and lower case":  {one("a", "A"), one("A"), {Uid: uid{Type: "a", Id: "A"}, Attrs: none()}},
		"alike when run on":     {{Uid: uid{Type: "A", Id: "Bc"}, Attrs: none()}, {Uid: uid{Type: "AB", Id: "c"}, Attrs: none()}},
		"longest names":         {{Uid: uid{Type: strings.Repeat("A", 20), Id: strings.Repeat("a", 60)}, Up: []uid{{Type: strings.Repeat("B", 20), Id: strings.Repeat(`"`, 60)}}, Attrs: none()}},
		"records":               {{Uid: id("a"), Attrs: rec("a", math.MinInt)}, {Uid: id("b"), Attrs: rec("a", math.MinInt)}},
		"a record of 200 nodes": {{Uid: id("a"), Attrs: bigRec(200)}},
		"16 such records":       withAttrs(many(16), bigRec(200)),
		"a uid in a record":     {{Uid: id("a"), Attrs: value{{Op: api.Rec, N: 1}, {Op: api.Field, S: "a"}, {Op: api.Ent, S: "A", T: "a"}}}},
	} {
		wantTold(t, "Check of "+name, ent.Check(es), api.OK)
	}
}

// withAttrs gives all of them this record.
func withAttrs(es []entity, v value) []entity {
	for i := range es {
		es[i].Attrs = v
	}
	return es
}

// EN1: what may not be of one entity, each thing by itself.
func TestCheckMayNotBe(t *testing.T) {
	for name, c := range map[string]struct {
		es   []entity
		want api.Errno
	}{
		"17":                    {many(17), api.ErrFull},
		"1000":                  {make([]entity, 1000), api.ErrFull},
		"no type":               {[]entity{{Attrs: none()}}, api.ErrSyntax},
		"a digit as a type":     {[]entity{{Uid: uid{Type: "1", Id: "a"}, Attrs: none()}}, api.ErrSyntax},
		"a long type":           {[]entity{{Uid: uid{Type: strings.Repeat("A", 21)}, Attrs: none()}}, api.ErrFull},
		"a long id":             {[]entity{one(strings.Repeat("a", 61))}, api.ErrFull},
		"a byte in an id":       {[]entity{one("\x1f")}, api.ErrSyntax},
		"twice, alike":          {[]entity{one("a"), one("a")}, api.ErrTwice},
		"twice, not alike":      {[]entity{one("a", "b"), one("b"), {Uid: id("a"), Attrs: rec("a", 1)}}, api.ErrTwice},
		"7 above":               {[]entity{one("a", "b", "c", "d", "e", "f", "g", "h")}, api.ErrFull},
		"no type above":         {[]entity{{Uid: id("a"), Up: []uid{{Id: "a"}}, Attrs: none()}}, api.ErrSyntax},
		"a long type above":     {[]entity{{Uid: id("a"), Up: []uid{{Type: strings.Repeat("A", 21)}}, Attrs: none()}}, api.ErrFull},
		"a long id above":       {[]entity{one("a", strings.Repeat("a", 61))}, api.ErrFull},
		"a byte above":          {[]entity{one("a", "b", "\x7f")}, api.ErrSyntax},
		"twice above":           {[]entity{one("a", "b", "c", "b")}, api.ErrTwice},
		"twice above, at last":  {[]entity{one("a", "b", "c", "d", "e", "f", "f")}, api.ErrTwice},
		"no attrs":              {[]entity{{Uid: id("a")}}, api.ErrSyntax},
		"empty attrs":           {[]entity{{Uid: id("a"), Attrs: value{}}}, api.ErrSyntax},
		"attrs of two values":   {[]entity{{Uid: id("a"), Attrs: append(none(), none()...)}}, api.ErrSyntax},
		"attrs with less":       {[]entity{{Uid: id("a"), Attrs: rec("a", 1)[:2]}}, api.ErrSyntax},
		"a field as attrs":      {[]entity{{Uid: id("a"), Attrs: rec("a", 1)[1:]}}, api.ErrSyntax},
		"an expression in them": {[]entity{{Uid: id("a"), Attrs: value{{Op: api.Var, S: "a"}}}}, api.ErrSyntax},
		"attrs of 201 nodes":    {[]entity{{Uid: id("a"), Attrs: bigRec(201)}}, api.ErrFull},
		"a set as attrs":        {[]entity{{Uid: id("a"), Attrs: value{{Op: api.Set}}}}, api.ErrType},
		"a number as attrs":     {[]entity{{Uid: id("a"), Attrs: value{{Op: api.Num}}}}, api.ErrType},
		"an entity as attrs":    {[]entity{{Uid: id("a"), Attrs: value{{Op: api.Ent, S: "A"}}}}, api.ErrType},
		"the last one of many":  {append(many(15), entity{Uid: id("a")}), api.ErrSyntax},
		"the first one of many": {append([]entity{{Uid: id("a")}}, many(15)...), api.ErrSyntax},
	} {
		wantTold(t, "Check of "+name, ent.Check(c.es), c.want)
		wantAll(t, name, c.es, c.want)
	}
}

// wantAll fails unless the calls that check the store first tell this.
func wantAll(t *testing.T, name string, es []entity, wrong api.Errno) {
	t.Helper()
	for _, u := range append(ids("a", "b", "", "0"), uid{}) {
		above, err := ent.Above(es, u)
		wantUids(t, fmt.Sprintf("Above(%s, %s)", name, shown(u)), above, err, nil, wrong)
		in, err := ent.In(es, u, u)
		wantBool(t, fmt.Sprintf("In(%s, %s, the same)", name, shown(u)), in, err, false, wrong)
		attrs, err := ent.Attrs(es, u)
		wantValue(t, fmt.Sprintf("Attrs(%s, %s)", name, shown(u)), attrs, err, nil, wrong)
	}
}

// EN1: where one is above itself.
func TestCheckCycle(t *testing.T) {
	long := chain(16)
	long[15].Up = ids("00")
	for name, es := range map[string][]entity{
		"itself":           {one("a", "a")},
		"itself, at last":  {one("a", "b", "c", "d", "e", "f", "a")},
		"two":              {one("a", "b"), one("b", "a")},
		"three":            {one("a", "b"), one("c", "a"), one("b", "c")},
		"16":               long,
		"above another":    {one("a", "b"), one("b", "c"), one("c", "b")},
		"below another":    {one("c"), one("a", "b", "c"), one("b", "a")},
		"the last one":     append(many(15), one("x", "x")),
		"beside a way out": {one("a", "x", "b"), one("b", "y", "a")},
	} {
		wantTold(t, "Check of "+name, ent.Check(es), api.ErrCycle)
		wantAll(t, name, es, api.ErrCycle)
	}
}

// EN1: what is wrong with one entity comes in the order that is named: of a
// fault and each later one, the earlier one is told; and of two entities all
// of the first one is, but for a cycle, which comes at last.
func TestCheckOrder(t *testing.T) {
	type fault struct {
		name string
		make func(e *entity)
		want api.Errno
	}
	// Each fault leaves what the others touch as it is, but for those of one
	// list, of which the later one stands behind in it.
	faults := []fault{
		{"a wrong type", func(e *entity) { e.Uid.Type = "" }, api.ErrSyntax},
		{"a wrong id", func(e *entity) { e.Uid.Id = strings.Repeat("a", 61) }, api.ErrFull},
		{"twice", func(e *entity) {
			if e.Uid == id("e") {
				e.Uid = id("first")
			}
		}, api.ErrTwice},
		{"7 above", func(e *entity) { e.Up = append(e.Up, ids("r", "s", "t", "u", "v", "w", "x")...) }, api.ErrFull},
		{"a wrong type above", func(e *entity) { e.Up = append(e.Up, uid{Type: ".", Id: strings.Repeat("a", 61)}) }, api.ErrSyntax},
		{"twice above", func(e *entity) { e.Up = append(e.Up, ids("p", "p")...) }, api.ErrTwice},
		{"a long id above", func(e *entity) { e.Up = append(e.Up, id(strings.Repeat("a", 61))) }, api.ErrFull},
		{"attrs that are none", func(e *entity) { e.Attrs = value{{Op: api.Num, S: "x"}} }, api.ErrSyntax},
		{"attrs that are no record", func(e *entity) {
			if slices.Equal(e.Attrs, none()) {
				e.Attrs = value{{Op: api.Num}}
			}
		}, api.ErrType},
	}
	for i, early := range faults {
		for j, late := range faults[i:] {
			e := one("e")
			early.make(&e)
			if j > 0 {
				late.make(&e)
			}
			es := []entity{one("first"), e, one("x", "x")}
			wantTold(t, "Check of "+early.name+" and "+late.name, ent.Check(es), early.want)
		}
		for _, other := range faults {
			e, next := one("e"), one("next")
			early.make(&e)
			other.make(&next)
			es := []entity{one("first", "first"), e, next}
			wantTold(t, "Check of "+early.name+", then of one with "+other.name, ent.Check(es), early.want)
		}
	}
	// 17 of them come ahead of all else.
	for _, f := range faults {
		es := append([]entity{one("first"), one("e")}, many(15)...)
		f.make(&es[1])
		wantTold(t, "Check of 17, one with "+f.name, ent.Check(es), api.ErrFull)
	}
	wantTold(t, "Check of 17 in a cycle of wrong types", ent.Check(make([]entity, 17)), api.ErrFull)
	// A cycle that stands ahead of what is wrong.
	wantTold(t, "Check of a cycle, then a set", ent.Check([]entity{one("a", "a"), {Uid: id("b"), Attrs: value{{Op: api.Set}}}}), api.ErrType)
	wantTold(t, "Check of a cycle of two that are twice", ent.Check([]entity{one("a", "b"), one("b", "a"), one("a", "b")}), api.ErrTwice)
}

// EN1: the same uid as its own and above it is no ErrTwice.
func TestTwiceIsOfOneList(t *testing.T) {
	wantTold(t, "Check", ent.Check([]entity{one("b", "c"), one("a", "b", "c"), one("c")}), api.OK)
	wantTold(t, "Check", ent.Check([]entity{one("b", "a"), one("a", "b", "a")}), api.ErrCycle)
}

// graph is a store of so many as rows of bits: bit j of row i tells that j is
// right above i; those from count on are not in the store.
type graph struct {
	up []uint
}

// uidOf is a uid by its number; their order is neither that of the numbers
// nor that of the ids alone.
func uidOf(i int) uid {
	return uid{Type: []string{"B", "A", "AB", "a"}[i%4], Id: fmt.Sprint(97 - i*13)}
}

// store is that of a graph, the entities and those above them in an order
// that hangs on a number.
func (g graph) store(turn int) []entity {
	var es []entity
	for i, row := range g.up {
		e := entity{Uid: uidOf(i), Attrs: rec("n", i)}
		for j := range 32 {
			if k := (j*turn + 7) % 32; row>>k&1 == 1 {
				e.Up = append(e.Up, uidOf(k))
			}
		}
		es = append(es, e)
	}
	for i := range es {
		j := (i*turn + 3) % len(es)
		es[i], es[j] = es[j], es[i]
	}
	return es
}

// closed tells what is above what: Warshall's way, by rows.
func (g graph) closed() []uint {
	rows := slices.Clone(g.up)
	for k := range rows {
		for i := range rows {
			if rows[i]>>k&1 == 1 {
				rows[i] |= rows[k]
			}
		}
	}
	return rows
}

// graphs are many, some with cycles: made by a rule, not by chance.
func graphs() []graph {
	var all []graph
	// All of two, with two more outside, and all of three.
	for bits := range uint(1 << 8) {
		all = append(all, graph{[]uint{bits & 15, bits >> 4}})
	}
	for bits := range uint(1 << 9) {
		all = append(all, graph{[]uint{bits & 7, bits >> 3 & 7, bits >> 6}})
	}
	state := uint(12345)
	next := func(below uint) uint {
		state = state*6364136223846793005 + 1442695040888963407
		return state >> 33 % below
	}
	for i := range 600 {
		count := int(next(16)) + 1
		g := graph{make([]uint, count)}
		for row := range g.up {
			for range next(4) + uint(i%4) {
				to := int(next(uint(count) + 3))
				// Two of three have no cycle: they lead on to what is behind.
				if i%3 == 0 || to > row {
					g.up[row] |= 1 << to
				}
			}
		}
		all = append(all, g)
	}
	return all
}

// EN1, EN2, EN3: held against rows of bits.
func TestHeldAgainstRows(t *testing.T) {
	cycles, orders := 0, 0
	for i, g := range graphs() {
		turn := []int{1, 3, 5, 7, 11}[i%5]
		es, rows := g.store(turn), g.closed()
		wrong := api.OK
		for u, row := range rows {
			if row>>u&1 == 1 {
				wrong = api.ErrCycle
			}
		}
		if wrong == api.OK {
			orders++
		} else {
			cycles++
		}
		wantTold(t, fmt.Sprintf("Check of %v", g), ent.Check(es), wrong)
		for u := range len(rows) + 4 {
			g.wantOne(t, es, u, wrong)
		}
	}
	if cycles < 100 || orders < 100 {
		t.Errorf("%d graphs with cycles and %d without are too few", cycles, orders)
	}
}

// wantOne fails unless all calls tell of this one what the rows do.
func (g graph) wantOne(t *testing.T, es []entity, u int, wrong api.Errno) {
	t.Helper()
	rows := g.closed()
	var row uint
	attrs, lost := value(nil), api.ErrLost
	if u < len(rows) {
		row, attrs, lost = rows[u], rec("n", u), api.OK
	}
	if wrong != api.OK {
		row, attrs, lost = 0, nil, wrong
	}
	var above []uid
	for v := range 32 {
		if row>>v&1 == 1 {
			above = append(above, uidOf(v))
		}
		if v < len(rows)+4 {
			in, err := ent.In(es, uidOf(u), uidOf(v))
			wantBool(t, fmt.Sprintf("In(%v, %d, %d)", g, u, v), in, err, wrong == api.OK && (u == v || row>>v&1 == 1), wrong)
		}
	}
	slices.SortFunc(above, func(a, b uid) int {
		// No type here has a byte below 1 in it.
		return strings.Compare(a.Type+"\x00"+a.Id, b.Type+"\x00"+b.Id)
	})
	got, err := ent.Above(es, uidOf(u))
	wantUids(t, fmt.Sprintf("Above(%v, %d)", g, u), got, err, above, wrong)
	had, err := ent.Attrs(es, uidOf(u))
	wantValue(t, fmt.Sprintf("Attrs(%v, %d)", g, u), had, err, attrs, lost)
}

// EN2: what is above, by examples.
func TestAboveAndIn(t *testing.T) {
	es := []entity{
		one("a", "c", "b"), one("b", "d"), one("c", "d", "x"), one("d"),
		{Uid: uid{Type: "B", Id: "a"}, Up: []uid{{Type: "Z", Id: "a"}, id("z"), id("d"), {Type: "AA", Id: ""}, id("")}, Attrs: none()},
	}
	for _, c := range []struct {
		of   uid
		want []uid
	}{
		{id("a"), ids("b", "c", "d", "x")},
		{id("b"), ids("d")},
		{id("c"), ids("d", "x")},
		{id("d"), nil},
		{id("x"), nil},
		{id("nobody"), nil},
		{uid{Type: "B", Id: "a"}, append(ids("", "d", "z"), uid{Type: "AA"}, uid{Type: "Z", Id: "a"})},
		{uid{Type: "B", Id: "b"}, nil},
		{uid{}, nil},
		{uid{Type: "A::", Id: strings.Repeat("\x00", 1000)}, nil},
	} {
		got, err := ent.Above(es, c.of)
		wantUids(t, fmt.Sprintf("Above %s", shown(c.of)), got, err, c.want, api.OK)
		for _, b := range []uid{id("a"), id("b"), id("c"), id("d"), id("x"), id(""), {Type: "B", Id: "a"}, {Type: "Z", Id: "a"}, {}} {
			in, err := ent.In(es, c.of, b)
			wantBool(t, fmt.Sprintf("In(%s, %s)", shown(c.of), shown(b)), in, err, c.of == b || slices.Contains(c.want, b), api.OK)
		}
	}
}

// EN2: one is in itself wherever it stands, also where it may not be.
func TestInItself(t *testing.T) {
	for _, es := range [][]entity{nil, {}, many(3)} {
		for _, u := range []uid{id("0"), id("nobody"), {}, {Type: "1", Id: "\xff"}, {Type: strings.Repeat("A", 30)}} {
			in, err := ent.In(es, u, u)
			wantBool(t, fmt.Sprintf("In(%s, itself)", shown(u)), in, err, true, api.OK)
			other := uid{Type: u.Type, Id: u.Id + "+"}
			in, err = ent.In(es, u, other)
			wantBool(t, fmt.Sprintf("In(%s, %s)", shown(u), shown(other)), in, err, false, api.OK)
		}
	}
}

// EN2: of the longest chain, and of the most that can be above one.
func TestAboveMost(t *testing.T) {
	es := chain(16)
	got, err := ent.Above(es, id("00"))
	var want []uid
	for i := range 16 {
		want = append(want, id(fmt.Sprintf("%02d", i+1)))
	}
	wantUids(t, "Above of a chain", got, err, want, api.OK)
	in, err := ent.In(es, id("00"), id("16"))
	wantBool(t, "In of a chain", in, err, true, api.OK)
	in, err = ent.In(es, id("16"), id("00"))
	wantBool(t, "In of a chain, the other way", in, err, false, api.OK)

	// Each of 16 has the next one and five outside above it.
	want = nil
	for i := range es {
		for j := range 5 {
			es[i].Up = append(es[i].Up, id(fmt.Sprintf("%02d %d", i, j)))
			want = append(want, id(fmt.Sprintf("%02d %d", i, j)))
		}
		want = append(want, id(fmt.Sprintf("%02d", i+1)))
	}
	got, err = ent.Above(es, id("00"))
	wantUids(t, "Above of 96", got, err, want, api.OK)
}

// EN2: to go up takes no longer where there are many ways.
func TestManyWays(t *testing.T) {
	var es []entity
	for i := range 16 {
		e := one(fmt.Sprintf("%02d", i))
		for j := i + 1; j <= i+6; j++ {
			e.Up = append(e.Up, id(fmt.Sprintf("%02d", j)))
		}
		es = append(es, e)
	}
	for range 200 {
		got, err := ent.Above(es, id("00"))
		if len(got) != 21 || err != nil {
			t.Fatalf("Above: got %s and %v", shown(got), err)
		}
	}
}

// EN3: the record of one, or ErrLost.
func TestAttrs(t *testing.T) {
	es := []entity{
		{Uid: id("a"), Up: ids("x", "c"), Attrs: rec("n", 1)},
		{Uid: uid{Type: "B", Id: "a"}, Attrs: bigRec(200)},
		{Uid: id("c"), Attrs: none()},
	}
	for _, c := range []struct {
		of    uid
		want  value
		wrong api.Errno
	}{
		{id("a"), rec("n", 1), api.OK},
		{uid{Type: "B", Id: "a"}, bigRec(200), api.OK},
		{id("c"), none(), api.OK},
		{id("x"), nil, api.ErrLost},
		{id(""), nil, api.ErrLost},
		{uid{Type: "B", Id: "c"}, nil, api.ErrLost},
		{uid{}, nil, api.ErrLost},
		{uid{Type: "1", Id: "\x00"}, nil, api.ErrLost},
	} {
		got, err := ent.Attrs(es, c.of)
		wantValue(t, fmt.Sprintf("Attrs of %s", shown(c.of)), got, err, c.want, c.wrong)
	}
	got, err := ent.Attrs(nil, id("a"))
	wantValue(t, "Attrs of an empty store", got, err, nil, api.ErrLost)
	got, err = ent.Attrs(append(es, one("d", "d")), id("x"))
	wantValue(t, "Attrs of a store with a cycle", got, err, nil, api.ErrCycle)
}

// spared is a store with memory behind each of its lists, and all of it.
func spared() (whole, es []entity) {
	es = []entity{
		{Uid: id("a"), Up: ids("b", "c"), Attrs: rec("n", 1)},
		{Uid: id("b"), Up: ids("d"), Attrs: rec("n", 2)},
		{Uid: id("c"), Attrs: none()},
	}
	for i := range es {
		ups, attrs := len(es[i].Up), len(es[i].Attrs)
		es[i].Up = append(es[i].Up, ids("a", "", "a", "z", "a", "z", "a", "z")...)[:ups]
		es[i].Attrs = append(es[i].Attrs, api.Node{Op: 99}, api.Node{S: "spare"})[:attrs]
	}
	whole = append(es, make([]entity, 20)...)
	return whole, whole[:3]
}

// behind shows all memory of a store, that behind its lists too.
func behind(whole []entity) string {
	s := ""
	for _, e := range whole {
		s += fmt.Sprint(e.Uid, len(e.Up), e.Up[:cap(e.Up)], len(e.Attrs), e.Attrs[:cap(e.Attrs)])
	}
	return s
}

// P2, P4: what is handed in stays, and what lies behind it is not read; what
// comes out is the caller's own.
func TestMemory(t *testing.T) {
	whole, es := spared()
	before := behind(whole)
	wantTold(t, "Check", ent.Check(es), api.OK)
	above, err := ent.Above(es, id("a"))
	wantUids(t, "Above", above, err, ids("b", "c", "d"), api.OK)
	in, err := ent.In(es, id("a"), id("z"))
	wantBool(t, "In", in, err, false, api.OK)
	attrs, err := ent.Attrs(es, id("a"))
	wantValue(t, "Attrs", attrs, err, rec("n", 1), api.OK)

	for i := range above[:cap(above)] {
		above[:cap(above)][i] = uid{Type: "written"}
	}
	for i := range attrs[:cap(attrs)] {
		attrs[:cap(attrs)][i] = api.Node{S: "written"}
	}
	if behind(whole) != before {
		t.Error("what was handed in was written into")
	}
	again, err := ent.Attrs(es, id("a"))
	wantValue(t, "Attrs again", again, err, rec("n", 1), api.OK)
	// What was handed in may change afterwards, and is not remembered.
	es[0].Attrs[2].N, es[0].Up[0] = 5, id("q")
	wantValue(t, "Attrs, later on", again, err, rec("n", 1), api.OK)
	above, err = ent.Above(es, id("a"))
	wantUids(t, "Above of what was changed", above, err, ids("c", "q"), api.OK)
}

// P2: no answer hangs on the order in which a map is gone through.
func TestSameAgain(t *testing.T) {
	for _, g := range graphs()[700:800] {
		es := g.store(5)
		first, wrong := ent.Above(es, uidOf(0))
		for range 10 {
			got, err := ent.Above(es, uidOf(0))
			if !reflect.DeepEqual(got, first) || err != wrong {
				t.Fatalf("Above of %v: got %v and %v, and before %v and %v", g, got, err, first, wrong)
			}
		}
	}
}

// P1: none panics, at stores of all kinds of rubbish.
func TestRubbish(t *testing.T) {
	uids := []uid{{}, id("a"), id("b"), {Type: "::", Id: "\""}, {Type: strings.Repeat("A", 100), Id: strings.Repeat("\xff", 100)}}
	values := []value{nil, none(), {{Op: api.Rec, N: math.MaxInt}}, {{Op: api.Rec, N: -1}}, {{Op: api.Rec, N: 1}}, {{Op: math.MinInt}}, make(value, 300)}
	for _, u := range uids {
		for _, up := range uids {
			for _, v := range values {
				for count := range 3 {
					es := slices.Repeat([]entity{{Uid: u, Up: slices.Repeat([]uid{up}, count), Attrs: v}}, count)
					wrong := ent.Check(es)
					_, err := ent.Above(es, up)
					wantTold(t, "Above of rubbish", err, plain.Told(wrong))
					_, err = ent.In(es, u, up)
					wantTold(t, "In of rubbish", err, plain.Told(wrong))
					_, err = ent.Attrs(es, up)
					if wrong != nil {
						wantTold(t, "Attrs of rubbish", err, plain.Told(wrong))
					}
				}
			}
		}
	}
}
