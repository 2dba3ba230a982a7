package schema_test

import (
	"fmt"
	"slices"
	"strings"
	"testing"

	"wicketgate/api"
	"wicketgate/plain"
	"wicketgate/schema"
)

// Short forms of what a schema is asked about.
type (
	nodes   = []api.Node
	uid     = api.Uid
	entity  = api.Entity
	kind    = api.Kind
	act     = api.Act
	request = api.Request
)

// wantTold fails unless this is the error that is wanted.
func wantTold(t *testing.T, call string, err error, want api.Errno) {
	t.Helper()
	if plain.Told(err) != want || want == api.OK && err != nil {
		t.Errorf("%s: got %v, want %v", call, err, want)
	}
}

// Short forms of types and values.

func noType() nodes { return nodes{{Op: api.KRec}} }
func none() nodes   { return nodes{{Op: api.Rec}} }

// recType is the type of a record with one field, n, which must be (1) or may
// be (0), of a type that is one node.
func recType(must int, of api.Node) nodes {
	return nodes{{Op: api.KRec, N: 1}, {Op: api.KField, N: must, S: "n"}, of}
}

// rec is a record with one field.
func rec(s string, of api.Node) nodes {
	return nodes{{Op: api.Rec, N: 1}, {Op: api.Field, S: s}, of}
}

var (
	number  = api.Node{Op: api.KNum}
	seven   = api.Node{Op: api.Num, N: 7}
	someTxt = api.Node{Op: api.Text, S: "7"}
)

// bigType is the type of a record with so many nodes, 3 of them at least.
func bigType(count int) nodes {
	list := nodes{{Op: api.KRec, N: 1}, {Op: api.KField, S: "n"}}
	for range count - 3 {
		list = append(list, api.Node{Op: api.KSet})
	}
	return append(list, number)
}

// bigRec is a record with so many nodes, 3 of them at least.
func bigRec(count int) nodes {
	list := nodes{{Op: api.Rec, N: 1}, {Op: api.Field, S: "n"}, {Op: api.Set, N: count - 3}}
	for i := range count - 3 {
		list = append(list, api.Node{Op: api.Num, N: i})
	}
	return list
}

// Short forms of the parts of a schema, none of them with anything wrong.

func kindOf(s string, up ...string) kind { return kind{Name: s, Up: up, Attrs: noType()} }
func actOf(s string) act {
	return act{Id: s, Who: []string{"A"}, What: []string{"B"}, Context: noType()}
}

// kindsOf are so many kinds.
func kindsOf(count int) []kind {
	var all []kind
	for i := range count {
		all = append(all, kindOf(fmt.Sprintf("K%d", i)))
	}
	return all
}

// actsOf are so many acts.
func actsOf(count int) []act {
	var all []act
	for i := range count {
		all = append(all, actOf(fmt.Sprintf("%d", i)))
	}
	return all
}

// ofKinds and ofActs are schemas of these alone.
func ofKinds(all ...kind) api.Schema { return api.Schema{Kinds: all} }
func ofActs(all ...act) api.Schema   { return api.Schema{Acts: all} }

// letters are so many names of one letter each.
func letters(count int) []string {
	return strings.Split("ABCDEFGHIJKLMNOPQRSTUVWXYZ"[:count], "")
}

// SC1: schemas that may be, among them those at the edges.
func TestCheckMayBe(t *testing.T) {
	long, text := strings.Repeat("A", 20), strings.Repeat("a", 60)
	for name, s := range map[string]api.Schema{
		"nothing":                {},
		"empty lists":            {Kinds: []kind{}, Acts: []act{}},
		"8 kinds":                ofKinds(kindsOf(8)...),
		"8 acts":                 ofActs(actsOf(8)...),
		"8 of both":              {Kinds: kindsOf(8), Acts: actsOf(8)},
		"6 above":                ofKinds(kindOf("A", letters(6)...)),
		"6 in Who and in What":   ofActs(act{Who: letters(6), What: letters(6), Context: noType()}),
		"nobody, nothing":        ofActs(act{Context: noType()}),
		"above itself":           ofKinds(kindOf("A", "A")),
		"above each other":       ofKinds(kindOf("A", "B"), kindOf("B", "A")),
		"twice above":            ofKinds(kindOf("A", "B", "B")),
		"twice in Who":           ofActs(act{Who: []string{"A", "A"}, What: []string{"B", "B"}, Context: noType()}),
		"names that no kind has": {Kinds: []kind{kindOf("A", "X")}, Acts: []act{{Who: []string{"Y"}, What: []string{"Z"}, Context: noType()}}},
		"an act like a kind":     {Kinds: []kind{kindOf("A")}, Acts: []act{actOf("A")}},
		"upper and lower case":   {Kinds: []kind{kindOf("A"), kindOf("a")}, Acts: []act{actOf("A"), actOf("a")}},
		"an empty id":            ofActs(actOf(""), actOf(" ")),
		"ids that are no names":  ofActs(actOf(`"`), actOf(`\`), actOf("1"), actOf("~")),
		"words of the language":  ofKinds(kindOf("if", "in"), kindOf("principal")),
		"longest names":          {Kinds: []kind{kindOf(long, long)}, Acts: []act{{Id: text, Who: []string{long}, What: []string{long}, Context: noType()}}},
		"an id of 60 quotes":     ofActs(actOf(strings.Repeat(`"`, 60))),
		"types of 200 nodes":     {Kinds: []kind{{Name: "A", Attrs: bigType(200)}}, Acts: []act{{Context: bigType(200)}}},
		"types with fields":      {Kinds: []kind{{Name: "A", Attrs: recType(1, number)}}, Acts: []act{{Context: recType(0, api.Node{Op: api.KEnt, S: "X"})}}},
	} {
		wantTold(t, "Check of "+name, schema.Check(s), api.OK)
	}
}

// SC1: what may not be of a schema, each thing by itself.
func TestCheckMayNotBe(t *testing.T) {
	for name, c := range map[string]struct {
		s    api.Schema
		want api.Errno
	}{
		"9 kinds":              {ofKinds(kindsOf(9)...), api.ErrFull},
		"9 acts":               {ofActs(actsOf(9)...), api.ErrFull},
		"9 kinds and 8 acts":   {api.Schema{Kinds: kindsOf(9), Acts: actsOf(8)}, api.ErrFull},
		"8 kinds and 9 acts":   {api.Schema{Kinds: kindsOf(8), Acts: actsOf(9)}, api.ErrFull},
		"1000 empty kinds":     {ofKinds(make([]kind, 1000)...), api.ErrFull},
		"a kind of no name":    {ofKinds(kindOf("")), api.ErrSyntax},
		"a digit as a kind":    {ofKinds(kindOf("1")), api.ErrSyntax},
		"a kind of 21 bytes":   {ofKinds(kindOf(strings.Repeat("A", 21))), api.ErrFull},
		"a kind of 21 digits":  {ofKinds(kindOf(strings.Repeat("1", 21))), api.ErrSyntax},
		"a kind twice":         {ofKinds(kindOf("A"), kindOf("B"), kindOf("A", "B")), api.ErrTwice},
		"7 above":              {ofKinds(kindOf("A", letters(7)...)), api.ErrFull},
		"7 above, all alike":   {ofKinds(kindOf("A", slices.Repeat([]string{"A"}, 7)...)), api.ErrFull},
		"no name above":        {ofKinds(kindOf("A", "")), api.ErrSyntax},
		"the last above":       {ofKinds(kindOf("A", "A", "B", "C", "D", "E", "F G")), api.ErrSyntax},
		"21 bytes above":       {ofKinds(kindOf("A", strings.Repeat("A", 21))), api.ErrFull},
		"no attrs":             {ofKinds(kind{Name: "A"}), api.ErrSyntax},
		"a value as attrs":     {ofKinds(kind{Name: "A", Attrs: none()}), api.ErrSyntax},
		"two types as attrs":   {ofKinds(kind{Name: "A", Attrs: append(noType(), noType()...)}), api.ErrSyntax},
		"201 nodes as attrs":   {ofKinds(kind{Name: "A", Attrs: bigType(201)}), api.ErrFull},
		"a number as attrs":    {ofKinds(kind{Name: "A", Attrs: nodes{number}}), api.ErrType},
		"a set as attrs":       {ofKinds(kind{Name: "A", Attrs: append(nodes{{Op: api.KSet}}, noType()...)}), api.ErrType},
		"KAny as attrs":        {ofKinds(kind{Name: "A", Attrs: nodes{{Op: api.KAny}}}), api.ErrType},
		"KNone as attrs":       {ofKinds(kind{Name: "A", Attrs: nodes{{Op: api.KNone}}}), api.ErrType},
		"an entity as attrs":   {ofKinds(kind{Name: "A", Attrs: nodes{{Op: api.KEnt, S: "A"}}}), api.ErrType},
		"a field as attrs":     {ofKinds(kind{Name: "A", Attrs: recType(1, number)[1:]}), api.ErrSyntax},
		"the last kind":        {ofKinds(append(kindsOf(7), kind{})...), api.ErrSyntax},
		"an id of 61 bytes":    {ofActs(actOf(strings.Repeat("a", 61))), api.ErrFull},
		"an id of 61 wrong":    {ofActs(actOf(strings.Repeat("\n", 61))), api.ErrFull},
		"a byte below":         {ofActs(actOf("\x1f")), api.ErrSyntax},
		"a byte above":         {ofActs(actOf("\x7f")), api.ErrSyntax},
		"an act twice":         {ofActs(actOf("a"), actOf("b"), act{Id: "a", Context: noType()}), api.ErrTwice},
		"no id, twice":         {ofActs(actOf(""), actOf("")), api.ErrTwice},
		"7 in Who":             {ofActs(act{Who: letters(7), Context: noType()}), api.ErrFull},
		"7 in What":            {ofActs(act{What: letters(7), Context: noType()}), api.ErrFull},
		"no name in Who":       {ofActs(act{Who: []string{"A", ""}, Context: noType()}), api.ErrSyntax},
		"no name in What":      {ofActs(act{What: []string{"A", ""}, Context: noType()}), api.ErrSyntax},
		"21 bytes in Who":      {ofActs(act{Who: []string{strings.Repeat("A", 21)}, Context: noType()}), api.ErrFull},
		"21 bytes in What":     {ofActs(act{What: []string{strings.Repeat("A", 21)}, Context: noType()}), api.ErrFull},
		"no context":           {ofActs(act{Id: "a"}), api.ErrSyntax},
		"a value as context":   {ofActs(act{Context: none()}), api.ErrSyntax},
		"201 nodes as context": {ofActs(act{Context: bigType(201)}), api.ErrFull},
		"a text as context":    {ofActs(act{Context: nodes{{Op: api.KText}}}), api.ErrType},
		"KAny as context":      {ofActs(act{Context: nodes{{Op: api.KAny}}}), api.ErrType},
		"the last act":         {ofActs(append(actsOf(7), act{Id: "a"})...), api.ErrSyntax},
	} {
		wantTold(t, "Check of "+name, schema.Check(c.s), c.want)
		// Whatever is asked of it, the schema is looked at first.
		wantTold(t, "Store of "+name, schema.Store(c.s, make([]entity, 17)), c.want)
		wantTold(t, "Asks of "+name, schema.Asks(c.s, request{}), c.want)
	}
}

// fault is one thing that is wrong with a thing, and what is told of it.
type fault[T any] struct {
	name string
	make func(*T)
	want api.Errno
}

// kindFaults are those of a kind, in the order in which they are told. Each
// leaves what the others touch, but for those of one list, of which the later
// one stands behind in it.
func kindFaults() []fault[kind] {
	return []fault[kind]{
		{"a wrong name", func(k *kind) { k.Name = "1" }, api.ErrSyntax},
		{"a name that is there", func(k *kind) {
			if k.Name != "1" {
				k.Name = "First"
			}
		}, api.ErrTwice},
		{"7 above", func(k *kind) { k.Up = append(k.Up, letters(7)...) }, api.ErrFull},
		{"a wrong name above", func(k *kind) { k.Up = append(k.Up, "") }, api.ErrSyntax},
		{"a long name above", func(k *kind) { k.Up = append(k.Up, strings.Repeat("A", 21)) }, api.ErrFull},
		{"attrs that are none", func(k *kind) { k.Attrs = nil }, api.ErrSyntax},
		{"attrs that are no record", func(k *kind) {
			if k.Attrs != nil {
				k.Attrs = nodes{number}
			}
		}, api.ErrType},
	}
}

// actFaults are those of an act, likewise.
func actFaults() []fault[act] {
	return []fault[act]{
		{"a wrong id", func(a *act) { a.Id = "\n" }, api.ErrSyntax},
		{"an id that is there", func(a *act) {
			if a.Id != "\n" {
				a.Id = "first"
			}
		}, api.ErrTwice},
		{"7 in What", func(a *act) { a.What = append(a.What, letters(7)...) }, api.ErrFull},
		{"a wrong name in Who", func(a *act) { a.Who = append(a.Who, "") }, api.ErrSyntax},
		{"a long name in Who", func(a *act) { a.Who = append(a.Who, strings.Repeat("A", 21)) }, api.ErrFull},
		{"a wrong name in What", func(a *act) { a.What = append(a.What, "1") }, api.ErrSyntax},
		{"a long name in What", func(a *act) { a.What = append(a.What, strings.Repeat("B", 21)) }, api.ErrFull},
		{"a context that is none", func(a *act) { a.Context = none() }, api.ErrSyntax},
		{"a context that is no record", func(a *act) {
			if a.Context[0].Op == api.KRec {
				a.Context = nodes{number}
			}
		}, api.ErrType},
	}
}

// wantOrder fails unless of two faults of one the earlier one is told, and of
// two faults of two things, one behind the other, that of the first one.
func wantOrder[T any](t *testing.T, faults []fault[T], fresh func(string) T, told func(...T) error) {
	t.Helper()
	for i, early := range faults {
		for j, late := range faults {
			one, next := fresh("one"), fresh("next")
			early.make(&one)
			late.make(&next)
			wantTold(t, early.name+", then of the next "+late.name, told(fresh("first"), one, next), early.want)
			if j > i {
				late.make(&one)
				wantTold(t, early.name+" and "+late.name, told(fresh("first"), one), early.want)
			}
		}
	}
}

// SC1: kind by kind, then act by act, and of each all in order.
func TestCheckOrder(t *testing.T) {
	freshKind := func(s string) kind { return kindOf(strings.ToUpper(s[:1])+s[1:], "A") }
	badAct := act{Id: "\x00", Who: letters(7), Context: nodes{number}}
	wantOrder(t, kindFaults(), freshKind, func(all ...kind) error {
		return schema.Check(api.Schema{Kinds: all, Acts: []act{badAct}})
	})
	wantOrder(t, actFaults(), actOf, func(all ...act) error {
		return schema.Check(api.Schema{Kinds: kindsOf(8), Acts: all})
	})
	// Too many in either list comes ahead of all else.
	for _, f := range kindFaults() {
		all := append([]kind{kindOf("First"), kindOf("One")}, kindsOf(6)...)
		f.make(&all[1])
		wantTold(t, f.name+", and 9 acts", schema.Check(api.Schema{Kinds: all, Acts: actsOf(9)}), api.ErrFull)
		wantTold(t, f.name+", and 9 kinds", schema.Check(ofKinds(append(all, kindOf("X"))...)), api.ErrFull)
	}
	for _, f := range actFaults() {
		all := append([]act{actOf("first"), actOf("one")}, actsOf(6)...)
		f.make(&all[1])
		wantTold(t, f.name+", and 9 kinds", schema.Check(api.Schema{Kinds: kindsOf(9), Acts: all}), api.ErrFull)
		wantTold(t, f.name+", and 9 acts", schema.Check(ofActs(append(all, actOf("x"))...)), api.ErrFull)
	}
}

// SC1: seven in Who or in What come ahead of a wrong name in the other one,
// and a wrong name in Who ahead of one in What.
func TestActLists(t *testing.T) {
	long := strings.Repeat("A", 21)
	for _, c := range []struct {
		who, what []string
		want      api.Errno
	}{
		{letters(7), []string{""}, api.ErrFull},
		{[]string{""}, letters(7), api.ErrFull},
		{[]string{""}, []string{long}, api.ErrSyntax},
		{[]string{long}, []string{""}, api.ErrFull},
		{append(letters(5), ""), []string{long}, api.ErrSyntax},
		{[]string{"", long}, nil, api.ErrSyntax},
		{[]string{long, ""}, nil, api.ErrFull},
		{nil, []string{"", long}, api.ErrSyntax},
		{nil, []string{long, ""}, api.ErrFull},
		{letters(6), letters(6), api.OK},
	} {
		s := ofActs(act{Who: c.who, What: c.what, Context: noType()})
		wantTold(t, fmt.Sprintf("Check of Who %q, What %q", c.who, c.what), schema.Check(s), c.want)
	}
}
