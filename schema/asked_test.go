package schema_test

import (
	"fmt"
	"math"
	"reflect"
	"slices"
	"strings"
	"testing"

	"wicketgate/api"
	"wicketgate/ent"
	"wicketgate/eval"
	"wicketgate/kinds"
	"wicketgate/plain"
	"wicketgate/schema"
)

// house is the schema that stores and requests are held to here.
func house() api.Schema {
	return api.Schema{
		Kinds: []kind{
			{Name: "User", Up: []string{"Team", "Role"}, Attrs: recType(1, number)},
			{Name: "Team", Up: []string{"Team"}, Attrs: recType(0, number)},
			{Name: "Doc", Attrs: recType(0, api.Node{Op: api.KEnt, S: "User"})},
			{Name: "Any", Up: letters(6), Attrs: recType(1, api.Node{Op: api.KAny})},
			{Name: "Never", Attrs: recType(0, api.Node{Op: api.KNone})},
			{Name: "Plain", Attrs: noType()},
			{Name: "Big", Attrs: nodes{{Op: api.KRec, N: 1}, {Op: api.KField, S: "n"}, {Op: api.KSet}, number}},
		},
		Acts: []act{
			{Id: "see", Who: []string{"User", "Guest"}, What: []string{"Doc"}, Context: recType(0, number)},
			{Id: "edit", Who: []string{"User"}, What: []string{"Doc", "Team"}, Context: recType(1, number)},
			{Id: "", Who: []string{"Guest"}, What: []string{"Guest"}, Context: noType()},
			{Id: "idle", Context: noType()},
			{Id: "crowd", Who: letters(6), What: letters(6), Context: recType(1, api.Node{Op: api.KAny})},
		},
	}
}

// of is an entity of a type, with an Id, a record, and those above it.
func of(s, id string, attrs nodes, up ...uid) entity {
	return entity{Uid: uid{Type: s, Id: id}, Up: up, Attrs: attrs}
}

// at is a uid by its type.
func at(s string) uid { return uid{Type: s, Id: "at"} }

// ats are uids of these types.
func ats(all []string) []uid {
	var us []uid
	for _, s := range all {
		us = append(us, at(s))
	}
	return us
}

// SC2: entities that may be, and such as may not be, one by one.
func TestStoreOne(t *testing.T) {
	num, txt := rec("n", seven), rec("n", someTxt)
	user := api.Node{Op: api.Ent, S: "User", T: "nobody"}
	for name, c := range map[string]struct {
		e    entity
		want api.Errno
	}{
		"a user":               {of("User", "a", num), api.OK},
		"below what it may":    {of("User", "a", num, at("Team"), at("Role"), uid{Type: "Team"}), api.OK},
		"below its like":       {of("Team", "a", none(), at("Team")), api.OK},
		"not what may be":      {of("Team", "a", none()), api.OK},
		"what may be":          {of("Team", "a", num), api.OK},
		"an entity, any id":    {of("Doc", "a", rec("n", user)), api.OK},
		"whatever there is":    {of("Any", "", txt, ats(letters(6))...), api.OK},
		"without what cannot":  {of("Never", "a", none()), api.OK},
		"empty":                {of("Plain", "a", none()), api.OK},
		"200 nodes":            {of("Big", "a", bigRec(200)), api.OK},
		"no such kind":         {of("Role", "a", none()), api.ErrNone},
		"an act's type":        {of("Action", "see", none()), api.ErrNone},
		"in lower case":        {of("user", "a", num), api.ErrNone},
		"a beginning":          {of("Use", "a", num), api.ErrNone},
		"a kind's name as id":  {of("X", "User", num), api.ErrNone},
		"below another":        {of("User", "a", num, at("Doc")), api.ErrType},
		"a user below a user":  {of("User", "a", num, at("User")), api.ErrType},
		"the last above":       {of("User", "a", num, at("Team"), at("Role"), at("X")), api.ErrType},
		"the first above":      {of("User", "a", num, at("X"), at("Team")), api.ErrType},
		"in lower case, above": {of("User", "a", num, at("team")), api.ErrType},
		"below what has none":  {of("Plain", "a", none(), at("Plain")), api.ErrType},
		"below the last":       {of("Any", "a", txt, at("G")), api.ErrType},
		"without what must":    {of("User", "a", none()), api.ErrType},
		"another type":         {of("User", "a", txt), api.ErrType},
		"another type, may be": {of("Team", "a", txt), api.ErrType},
		"another entity":       {of("Doc", "a", rec("n", api.Node{Op: api.Ent, S: "Team"})), api.ErrType},
		"another name":         {of("Team", "a", rec("m", seven)), api.ErrType},
		"more than empty":      {of("Plain", "a", num), api.ErrType},
		"what cannot be":       {of("Never", "a", num), api.ErrType},
		"no such type":         {entity{Attrs: none()}, api.ErrSyntax},
		"attrs that are none":  {of("User", "a", nil), api.ErrSyntax},
		"attrs of a set":       {of("Role", "a", nodes{{Op: api.Set}}), api.ErrType},
		"above itself":         {of("Role", "at", none(), at("Role")), api.ErrCycle},
	} {
		wantTold(t, "Store of "+name, schema.Store(house(), []entity{c.e}), c.want)
		// So it is behind others that may be, and ahead of them.
		right := of("Plain", "right", none())
		wantTold(t, "Store of another and "+name, schema.Store(house(), []entity{right, c.e}), c.want)
		wantTold(t, "Store of "+name+" and another", schema.Store(house(), []entity{c.e, right}), c.want)
	}
}

// SC2: an empty store may be in any schema, and nothing in an empty one.
func TestStoreEmpty(t *testing.T) {
	wantTold(t, "Store of nothing", schema.Store(house(), nil), api.OK)
	wantTold(t, "Store of nothing in nothing", schema.Store(api.Schema{}, []entity{}), api.OK)
	wantTold(t, "Store of one in nothing", schema.Store(api.Schema{}, []entity{of("User", "a", none())}), api.ErrNone)
	var full []entity
	for i := range 16 {
		full = append(full, of("Plain", fmt.Sprint(i), none()))
	}
	wantTold(t, "Store of 16", schema.Store(house(), full), api.OK)
	wantTold(t, "Store of 17", schema.Store(house(), append(full, of("Plain", "x", none()))), api.ErrFull)
	full[15].Uid.Type = "X"
	wantTold(t, "Store of 16, the last one of no kind", schema.Store(house(), full), api.ErrNone)
}

// SC2: the whole store is checked ahead of the schema's say; then entity by
// entity, and of each one its kind first.
func TestStoreOrder(t *testing.T) {
	noKind, wrongUp := of("X", "x", none()), of("Plain", "u", none(), at("X"))
	wrongAttrs := of("Plain", "v", rec("n", seven))
	broken := of("Plain", "w", nil)
	twice := of("X", "x", none())
	loop := of("Plain", "l", none(), uid{Type: "Plain", Id: "l"})
	for name, c := range map[string]struct {
		es   []entity
		want api.Errno
	}{
		"no kind, then above":       {[]entity{noKind, wrongUp}, api.ErrNone},
		"above, then no kind":       {[]entity{wrongUp, noKind}, api.ErrType},
		"attrs, then no kind":       {[]entity{wrongAttrs, noKind}, api.ErrType},
		"no kind, then attrs":       {[]entity{noKind, wrongAttrs}, api.ErrNone},
		"all of one":                {[]entity{of("X", "x", rec("n", seven), at("X"))}, api.ErrNone},
		"no kind, then a broken":    {[]entity{noKind, broken}, api.ErrSyntax},
		"above, then a broken":      {[]entity{wrongUp, broken}, api.ErrSyntax},
		"attrs, then twice no kind": {[]entity{wrongAttrs, noKind, twice}, api.ErrTwice},
		"no kind, then a cycle":     {[]entity{noKind, loop}, api.ErrCycle},
	} {
		wantTold(t, "Store of "+name, schema.Store(house(), c.es), c.want)
	}
}

// ask is a request by the types of who and what, and the Id of the act.
func ask(who, act, what string, context nodes) request {
	return request{Who: at(who), Act: uid{Type: "Action", Id: act}, What: at(what), Context: context}
}

// SC3: requests that may be, and such as may not be.
func TestAsks(t *testing.T) {
	num, txt := rec("n", seven), rec("n", someTxt)
	for name, c := range map[string]struct {
		q    request
		want api.Errno
	}{
		"see":                    {ask("User", "see", "Doc", none()), api.OK},
		"see with what may be":   {ask("User", "see", "Doc", num), api.OK},
		"a guest, of no kind":    {ask("Guest", "see", "Doc", none()), api.OK},
		"edit":                   {ask("User", "edit", "Doc", num), api.OK},
		"edit, the last":         {ask("User", "edit", "Team", num), api.OK},
		"an empty id":            {ask("Guest", "", "Guest", none()), api.OK},
		"the last of many":       {ask("F", "crowd", "F", txt), api.OK},
		"no such act":            {ask("User", "do", "Doc", none()), api.ErrNone},
		"in upper case":          {ask("User", "See", "Doc", none()), api.ErrNone},
		"a beginning":            {ask("User", "se", "Doc", none()), api.ErrNone},
		"nobody may":             {ask("User", "idle", "Doc", none()), api.ErrType},
		"another who":            {ask("Team", "see", "Doc", none()), api.ErrType},
		"who may do another":     {ask("Guest", "edit", "Doc", num), api.ErrType},
		"another what":           {ask("User", "see", "User", none()), api.ErrType},
		"what is of another":     {ask("User", "see", "Team", none()), api.ErrType},
		"who and what exchanged": {ask("Doc", "see", "User", none()), api.ErrType},
		"in lower case":          {ask("user", "see", "Doc", none()), api.ErrType},
		"behind the last who":    {ask("G", "crowd", "A", num), api.ErrType},
		"behind the last what":   {ask("A", "crowd", "G", num), api.ErrType},
		"context of another":     {ask("User", "see", "Doc", txt), api.ErrType},
		"context with more":      {ask("User", "see", "Doc", rec("m", seven)), api.ErrType},
		"context without":        {ask("User", "edit", "Doc", none()), api.ErrType},
		"context not empty":      {ask("Guest", "", "Guest", num), api.ErrType},
		"an empty request":       {request{}, api.ErrSyntax},
		"no context":             {ask("X", "do", "X", nil), api.ErrSyntax},
		"context of a set":       {ask("X", "do", "X", nodes{{Op: api.Set}}), api.ErrType},
		"context of 201 nodes":   {ask("User", "see", "Doc", bigRec(201)), api.ErrFull},
		"a long who":             {ask(strings.Repeat("A", 21), "do", "1", none()), api.ErrFull},
		"a long id":              {ask("X", strings.Repeat("a", 61), "X", none()), api.ErrFull},
		"no type of what":        {ask("X", "do", "", none()), api.ErrSyntax},
	} {
		wantTold(t, "Asks of "+name, schema.Asks(house(), c.q), c.want)
	}
}

// SC3: an act is of type Action, and of no other, whatever its Id is.
func TestAsksAction(t *testing.T) {
	for _, s := range []string{"action", "ACTION", "Act", "Actions", "Actio", "User", "see"} {
		q := ask("User", "see", "Doc", none())
		q.Act.Type = s
		wantTold(t, "Asks of an act of type "+s, schema.Asks(house(), q), api.ErrNone)
		// ErrNone comes ahead of what the act would say.
		q.Who.Type, q.What.Type, q.Context = "X", "X", rec("x", seven)
		wantTold(t, "Asks of nothing right and an act of type "+s, schema.Asks(house(), q), api.ErrNone)
	}
	wantTold(t, "Asks of no schema", schema.Asks(api.Schema{}, ask("User", "see", "Doc", none())), api.ErrNone)
	onlyKinds := api.Schema{Kinds: []kind{kindOf("Action"), kindOf("see")}}
	wantTold(t, "Asks of kinds alone", schema.Asks(onlyKinds, ask("Action", "see", "see", none())), api.ErrNone)
	wantTold(t, "Asks of an act that is not there, and nothing right", schema.Asks(house(), ask("X", "do", "X", rec("x", seven))), api.ErrNone)
}

// SC2, SC3: which types values have is what chapter 12 says, of many types
// and many values.
func TestTypesAsKindsHasThem(t *testing.T) {
	inner := []nodes{{number}, {{Op: api.KText}}, {{Op: api.KBool}}, {{Op: api.KAny}}, {{Op: api.KNone}}, {{Op: api.KEnt, S: "A"}}, {{Op: api.KSet}, number}, {{Op: api.KSet}, {Op: api.KNone}}, recType(1, number), noType()}
	values := []nodes{{seven}, {someTxt}, {{Op: api.Bool}}, {{Op: api.Ent, S: "A"}}, {{Op: api.Ent, S: "B"}}, {{Op: api.Set}}, {{Op: api.Set, N: 1}, seven}, {{Op: api.Set, N: 2}, seven, someTxt}, rec("n", seven), rec("n", someTxt), none()}
	types, recs := []nodes{noType()}, []nodes{none()}
	for _, in := range inner {
		for must := range 2 {
			types = append(types, append(recType(must, number)[:2], in...))
		}
	}
	for _, v := range values {
		recs = append(recs, append(rec("n", seven)[:2], v...), append(rec("m", seven)[:2], v...))
	}
	fits, misfits := 0, 0
	for _, kindType := range types {
		s := api.Schema{Kinds: []kind{{Name: "A", Attrs: kindType}}, Acts: []act{{Id: "a", Who: []string{"A"}, What: []string{"A"}, Context: kindType}}}
		for _, v := range recs {
			has, err := kinds.Has(kindType, v)
			wantTold(t, "Has", err, api.OK)
			want := api.ErrType
			if has {
				want = api.OK
				fits++
			} else {
				misfits++
			}
			wantTold(t, fmt.Sprint("Store of ", kindType, v), schema.Store(s, []entity{of("A", "a", v)}), want)
			wantTold(t, fmt.Sprint("Asks of ", kindType, v), schema.Asks(s, ask("A", "a", "A", v)), want)
		}
	}
	if fits < 40 || misfits < 200 {
		t.Errorf("%d that fit and %d that do not are too few", fits, misfits)
	}
}

// spare is a list with something behind its length that would be wrong in it.
func spare[T any](list []T, wrong T) []T {
	return append(slices.Clone(list), slices.Repeat([]T{wrong}, 9)...)[:len(list)]
}

// spareHouse is house with something wrong behind each of its lists.
func spareHouse() api.Schema {
	s := house()
	for i, k := range s.Kinds {
		s.Kinds[i].Up, s.Kinds[i].Attrs = spare(k.Up, "1"), spare(k.Attrs, seven)
	}
	for i, a := range s.Acts {
		s.Acts[i].Who, s.Acts[i].What = spare(a.Who, "X"), spare(a.What, "X")
		s.Acts[i].Context = spare(a.Context, seven)
	}
	s.Kinds, s.Acts = spare(s.Kinds, kindOf("X")), spare(s.Acts, actOf("x"))
	return s
}

// allOf shows a schema, and what lies behind its lists.
func allOf(s api.Schema) string {
	text := ""
	for _, k := range s.Kinds[:cap(s.Kinds)] {
		text += fmt.Sprint(k.Name, len(k.Up), k.Up[:cap(k.Up)], len(k.Attrs), k.Attrs[:cap(k.Attrs)])
	}
	for _, a := range s.Acts[:cap(s.Acts)] {
		text += fmt.Sprint(a.Id, len(a.Who), a.Who[:cap(a.Who)], len(a.What), a.What[:cap(a.What)], len(a.Context), a.Context[:cap(a.Context)])
	}
	return text
}

// P2, P4: what is handed in stays as it is, and what lies behind it is not
// read; nothing is kept from call to call.
func TestMemory(t *testing.T) {
	s := spareHouse()
	before := allOf(s)
	e := of("User", "a", spare(rec("n", seven), someTxt))
	e.Up = spare([]uid{at("Team")}, at("X"))
	es := spare([]entity{e}, of("X", "x", none()))
	q := ask("User", "see", "Doc", spare(none(), seven))
	wantTold(t, "Check", schema.Check(s), api.OK)
	wantTold(t, "Store", schema.Store(s, es), api.OK)
	wantTold(t, "Store of what lies behind", schema.Store(s, []entity{of("X", "x", none())}), api.ErrNone)
	wantTold(t, "Asks", schema.Asks(s, q), api.OK)
	wantTold(t, "Asks of what lies behind", schema.Asks(s, ask("X", "see", "Doc", none())), api.ErrType)
	wantTold(t, "Asks of what lies behind", schema.Asks(s, ask("A", "x", "B", none())), api.ErrNone)
	if allOf(s) != before {
		t.Error("the schema was written into")
	}
	if !reflect.DeepEqual(es, []entity{of("User", "a", rec("n", seven), at("Team"))}) || !reflect.DeepEqual(q, ask("User", "see", "Doc", none())) {
		t.Error("what was asked about was written into")
	}
	s.Kinds[0].Up[0], s.Acts[0].Who[0] = "Changed", "Changed"
	wantTold(t, "Store, later on", schema.Store(s, es), api.ErrType)
	wantTold(t, "Asks, later on", schema.Asks(s, q), api.ErrType)
}

// rubbish are lists of nodes of all kinds.
func rubbish() []nodes {
	return []nodes{nil, {}, noType(), none(), {{}}, {{Op: api.KRec, N: math.MaxInt}}, {{Op: api.KRec, N: math.MinInt}}, {{Op: api.KRec, N: 1}}, {{Op: api.KSet}}, {{Op: api.Rec, N: math.MaxInt}}, {{Op: math.MinInt}}, make(nodes, 300), slices.Repeat(nodes{{Op: api.KSet}}, 200)}
}

// P1, P3: none panics, at rubbish of all kinds; and each error is one that the
// chapter's words lead to.
func TestRubbish(t *testing.T) {
	texts := []string{"", "A", "1", "\xff", strings.Repeat("A", 100)}
	for _, list := range rubbish() {
		for _, s := range texts {
			for count := range 10 {
				names := slices.Repeat([]string{s}, count)
				all := api.Schema{
					Kinds: slices.Repeat([]kind{{Name: s, Up: names, Attrs: list}}, count),
					Acts:  slices.Repeat([]act{{Id: s, Who: names, What: names, Context: list}}, count%3),
				}
				wrong := schema.Check(all)
				es := []entity{of(s, s, list)}
				q := ask(s, s, s, list)
				wantAfter(t, "Store of rubbish", schema.Store(all, es), wrong, ent.Check(es))
				wantAfter(t, "Asks of rubbish", schema.Asks(all, q), wrong, eval.Ask(q))
				wantAfter(t, "Store of a house", schema.Store(house(), es), ent.Check(es))
				wantAfter(t, "Asks of a house", schema.Asks(house(), q), eval.Ask(q))
			}
		}
	}
}

// wantAfter fails unless the first of these that is an error is told; where
// there is none, anything that a schema says may be.
func wantAfter(t *testing.T, call string, err error, first ...error) {
	t.Helper()
	for _, wrong := range first {
		if wrong != nil {
			wantTold(t, call, err, plain.Told(wrong))
			return
		}
	}
	if told := plain.Told(err); told != api.OK && told != api.ErrNone && told != api.ErrType {
		t.Errorf("%s: got %v", call, err)
	}
}
