package slice_test

import (
	"fmt"
	"math"
	"math/rand/v2"
	"reflect"
	"slices"
	"strconv"
	"strings"
	"testing"

	"wicketgate/api"
	"wicketgate/auth"
	"wicketgate/ent"
	"wicketgate/eval"
	"wicketgate/phrase"
	"wicketgate/plain"
	"wicketgate/pol"
	"wicketgate/slice"
	"wicketgate/word"
)

// Short forms of what every call here is about.
type (
	nodes   = []api.Node
	scope   = api.Scope
	cond    = api.Cond
	policy  = api.Policy
	entity  = api.Entity
	request = api.Request
)

func uidOf(kind, id string) api.Uid { return api.Uid{Type: kind, Id: id} }

// wantTold fails unless this is the error that is wanted.
func wantTold(t *testing.T, call string, err error, want api.Errno) {
	t.Helper()
	if plain.Told(err) != want || want == api.OK && err != nil {
		t.Errorf("%s: got %v, want %v", call, err, want)
	}
}

// shown has no more of a thing than a message can bear.
func shown(x any) string {
	s := fmt.Sprintf("%+q", fmt.Sprint(x))
	if len(s) > 1000 {
		s = s[:1000] + "..."
	}
	return s
}

// same tells if two policies are, where an empty list and nil are the same.
func same(a, b policy) bool {
	conds := slices.EqualFunc(a.Conds, b.Conds, func(x, y cond) bool {
		return x.Unless == y.Unless && slices.Equal(x.Expr, y.Expr)
	})
	a.Conds, b.Conds = nil, nil
	return conds && reflect.DeepEqual(a, b)
}

// said is the expression of a text.
func said(s string) nodes {
	ts, _, err := word.Read(s)
	if err != nil {
		panic(s + ": " + err.Error())
	}
	e, _, err := phrase.Parse(ts)
	if err != nil {
		panic(s + ": " + err.Error())
	}
	return e
}

// when and unless are conditions.
func when(s string) cond   { return cond{Expr: said(s)} }
func unless(s string) cond { return cond{Unless: true, Expr: said(s)} }

// nots is so many Not about a name.
func nots(count int, s string) nodes {
	return append(slices.Repeat(nodes{{Op: api.Not}}, count), api.Node{Op: api.Var, S: s})
}

// Whom the tests speak of: ann is below the team, which is below all; bob is
// below none, and is not in the store; neither are all and far.
var (
	ann  = uidOf("User", "ann")
	bob  = uidOf("User", "bob")
	see  = uidOf("Action", "see")
	read = uidOf("Action", "read")
	team = uidOf("Group", "team")
	all  = uidOf("Group", "all")
	far  = uidOf("Group", "far")
)

func everyone() []api.Uid { return []api.Uid{ann, bob, see, read, team, all, far} }

func store() []entity {
	return []entity{
		{Uid: ann, Up: []api.Uid{team}, Attrs: said("{ age : 17 }")},
		{Uid: team, Up: []api.Uid{all}, Attrs: nodes{{Op: api.Rec}}},
		{Uid: see, Up: []api.Uid{read}, Attrs: nodes{{Op: api.Rec}}},
	}
}

// asked is ann's request to see the team.
func asked() request {
	return request{Who: ann, Act: see, What: team, Context: said("{ no : false }")}
}

// below tells if one is another, or is below it: it goes up one by one, which
// ends, since none is above itself.
func below(es []entity, u, other api.Uid) bool {
	if u == other {
		return true
	}
	for _, e := range es {
		if e.Uid == u {
			return slices.ContainsFunc(e.Up, func(up api.Uid) bool { return below(es, up, other) })
		}
	}
	return false
}

// within tells if somebody is within a scope, as the words of chapter 15 say.
func within(es []entity, s scope, u api.Uid) bool {
	switch s.Op {
	case api.Everywhere:
		return true
	case api.Same:
		return u == s.Uid
	case api.Below:
		return below(es, u, s.Uid)
	case api.Of:
		return u.Type == s.Type
	case api.OfBelow:
		return u.Type == s.Type && below(es, u, s.Uid)
	}
	panic("no scope without a slot")
}

// picked has the policies that are wanted.
func picked(es []entity, ps []policy, q request) []policy {
	var list []policy
	for _, p := range ps {
		if within(es, p.Who, q.Who) && within(es, p.Act, q.Act) && within(es, p.What, q.What) {
			list = append(list, p)
		}
	}
	return list
}

// wantPicked fails unless Pick tells these.
func wantPicked(t *testing.T, es []entity, ps []policy, q request, want []policy) {
	t.Helper()
	got, err := slice.Pick(es, ps, q)
	if err != nil || !slices.EqualFunc(got, want, same) {
		t.Fatalf("Pick from %s for %s: got %s and %v, want %s", shown(ps), shown(q), shown(got), err, shown(want))
	}
}

// scopes are all that there are about those of whom the tests speak.
func scopes() []scope {
	list := []scope{{}}
	for _, kind := range []string{"User", "Action", "Group", "Far"} {
		list = append(list, scope{Op: api.Of, Type: kind})
		for _, u := range everyone() {
			list = append(list, scope{Op: api.OfBelow, Type: kind, Uid: u})
		}
	}
	for _, u := range everyone() {
		list = append(list, scope{Op: api.Same, Uid: u}, scope{Op: api.Below, Uid: u})
	}
	return list
}

// conds are conditions that hold, that do not, and that are wrong, some of
// them only where they are asked for.
func conds() [][]cond {
	return [][]cond{
		nil, {}, {when("true")}, {when("false")}, {unless("true")}, {unless("false")},
		{when("x")}, {unless("x")}, {when("1")}, {when("principal")}, {when("resource . age < 1")}, {when("context . no")},
		{when("false"), when("x")}, {when("x"), when("false")}, {when("true"), unless("principal . age < 18"), when("{ }"), when("false")},
	}
}

// SL1: the example of the chapter.
func TestExample(t *testing.T) {
	u := uidOf("A", "a")
	q := request{Who: u, Act: u, What: u, Context: nodes{{Op: api.Rec}}}
	ps := []policy{
		{Name: "one", Who: scope{Op: api.Of, Type: "B"}},
		{Name: "two", What: scope{Op: api.Same, Uid: u}},
		{Name: "three"},
	}
	wantPicked(t, nil, ps, q, ps[1:])
	wantPicked(t, nil, nil, q, nil)
	wantPicked(t, nil, []policy{}, q, nil)
	wantPicked(t, nil, ps[:1], q, nil)
}

// SL1: each scope of each side, about everyone.
func TestScopes(t *testing.T) {
	is, not := 0, 0
	for _, s := range scopes() {
		for _, u := range everyone() {
			for _, c := range []struct {
				p policy
				q request
			}{
				{policy{Name: "p", Who: s}, request{Who: u, Act: far, What: far}},
				{policy{Name: "p", Act: s}, request{Who: far, Act: u, What: far}},
				{policy{Name: "p", What: s}, request{Who: far, Act: far, What: u}},
			} {
				c.q.Context = nodes{{Op: api.Rec}}
				var want []policy
				if within(store(), s, u) {
					want = []policy{c.p}
					is++
				} else {
					not++
				}
				wantPicked(t, store(), []policy{c.p}, c.q, want)
			}
		}
	}
	if is < 100 || not < 600 {
		t.Errorf("%d are within, and %d are not", is, not)
	}
}

// SL1: all three scopes must be true.
func TestSides(t *testing.T) {
	who := []scope{{Op: api.Same, Uid: bob}, {Op: api.Below, Uid: all}}
	act := []scope{{Op: api.Of, Type: "User"}, {Op: api.Below, Uid: read}}
	what := []scope{{Op: api.OfBelow, Type: "Group", Uid: far}, {Op: api.Same, Uid: team}}
	var ps []policy
	for i := range 8 {
		ps = append(ps, policy{Name: "p" + strconv.Itoa(i), Who: who[i&1], Act: act[i>>1&1], What: what[i>>2]})
	}
	wantPicked(t, store(), ps, asked(), ps[7:])
	for i := range ps {
		wantPicked(t, store(), ps[i:i+1], asked(), picked(store(), ps[i:i+1], asked()))
	}
}

// SL1: neither the conditions matter, nor whether it permits or forbids; what is
// picked is whole.
func TestConds(t *testing.T) {
	for _, list := range conds() {
		for _, forbid := range []bool{false, true} {
			in := policy{Name: "in", Forbid: forbid, Who: scope{Op: api.Below, Uid: all}, What: scope{Op: api.Of, Type: "Group"}, Conds: list}
			out := policy{Name: "out", Forbid: forbid, Who: scope{Op: api.Below, Uid: far}, What: scope{Op: api.Of, Type: "Group"}, Conds: list}
			wantPicked(t, store(), []policy{in}, asked(), []policy{in})
			wantPicked(t, store(), []policy{out}, asked(), nil)
			wantPicked(t, store(), []policy{out, in}, asked(), []policy{in})
			wantPicked(t, store(), []policy{{Name: "a", Forbid: true}, in, {Name: "b"}, out, {Name: "c", Forbid: true}}, asked(),
				[]policy{{Name: "a", Forbid: true}, in, {Name: "b"}, {Name: "c", Forbid: true}})
		}
	}
}

// drawn are up to 12 policies, with names that are in no order.
func drawn(rng *rand.Rand) []policy {
	every, rules := scopes(), conds()
	// Most hold for ann, or few would be picked.
	draw := func(likely ...scope) scope {
		if rng.IntN(6) > 0 {
			return likely[rng.IntN(len(likely))]
		}
		return every[rng.IntN(len(every))]
	}
	var ps []policy
	for i := range rng.IntN(api.MaxPols + 1) {
		ps = append(ps, policy{
			Name:   "p" + strconv.Itoa(i*7%api.MaxPols),
			Forbid: rng.IntN(4) == 0,
			Who:    draw(scope{}, scope{Op: api.Below, Uid: all}, scope{Op: api.OfBelow, Type: "User", Uid: team}),
			Act:    draw(scope{}, scope{Op: api.Below, Uid: read}, scope{Op: api.Same, Uid: see}),
			What:   draw(scope{}, scope{Op: api.Of, Type: "Group"}, scope{Op: api.Below, Uid: all}),
			Conds:  rules[rng.IntN(len(rules))],
		})
	}
	return ps
}

// SL1: many policies, in many stores and of many requests. Those that are left
// out do not matter: without them the answer is the same, and none of those
// that are picked is left out of another pick.
func TestMany(t *testing.T) {
	rng := rand.New(rand.NewPCG(18, 1))
	uids := everyone()
	uid := func() api.Uid { return uids[rng.IntN(len(uids))] }
	in, out, allowed, forbidden, wrong := 0, 0, 0, 0, 0
	for range 3000 {
		es := store()
		rng.Shuffle(len(es), func(i, j int) { es[i], es[j] = es[j], es[i] })
		es = es[:min(rng.IntN(2*len(es)), len(es))]
		q := asked()
		switch rng.IntN(6) {
		case 0:
			q.Who = uid()
		case 1:
			q.Act = uid()
		case 2:
			q.What = uid()
		}
		ps := drawn(rng)
		want := picked(es, ps, q)
		wantPicked(t, es, ps, q, want)
		wantPicked(t, es, want, q, want)
		whole := answer(t, es, ps, q)
		if less := answer(t, es, want, q); !reflect.DeepEqual(whole, less) {
			t.Fatalf("of %s: got %s, and without those that are left out %s", shown(ps), shown(whole), shown(less))
		}
		in, out, wrong = in+len(want), out+len(ps)-len(want), wrong+len(whole.Wrong)
		switch {
		case whole.Allow:
			allowed++
		case len(whole.By) > 0:
			forbidden++
		}
	}
	if min(in, out) < 2000 || min(allowed, forbidden) < 200 || wrong < 500 {
		t.Errorf("too few: %d in, %d out, %d allowed, %d forbidden, %d wrong", in, out, allowed, forbidden, wrong)
	}
}

func answer(t *testing.T, es []entity, ps []policy, q request) api.Answer {
	t.Helper()
	a, err := auth.Ask(es, ps, q)
	wantTold(t, "Ask", err, api.OK)
	return a
}

// fault is what makes a policy none of those that may be, where an earlier one
// has the name p0, and what is told of it.
type fault struct {
	what string
	make func(p *policy)
	want api.Errno
}

// faults are some of each, in the order in which they are told.
func faults() []fault {
	rules := func(list ...cond) func(p *policy) {
		return func(p *policy) { p.Conds = slices.Concat(p.Conds, list) }
	}
	return []fault{
		{"no name", func(p *policy) { p.Name = "" }, api.ErrSyntax},
		{"a long name", func(p *policy) { p.Name = strings.Repeat("N", api.MaxName+1) }, api.ErrFull},
		{"a scope that is none", func(p *policy) { p.What = scope{Op: api.BelowSlot + 1} }, api.ErrSyntax},
		{"a slot of Act", func(p *policy) { p.Act = scope{Op: api.BelowSlot} }, api.ErrSyntax},
		{"5 conditions", rules(slices.Repeat([]cond{when("true")}, api.MaxConds+1)...), api.ErrFull},
		{"a condition that is none", rules(cond{}), api.ErrSyntax},
		{"a condition of 201 nodes", rules(cond{Expr: nots(200, "x")}), api.ErrFull},
		{"a slot in a condition", rules(when("?principal")), api.ErrSyntax},
		{"a name once more", func(p *policy) { p.Name = "p0" }, api.ErrTwice},
		{"201 nodes", rules(cond{Expr: nots(194, "x")}), api.ErrFull},
		{"a slot of Who", func(p *policy) { p.Who = scope{Op: api.SameSlot} }, api.ErrSyntax},
		{"a slot of What", func(p *policy) { p.What = scope{Op: api.BelowSlot} }, api.ErrSyntax},
	}
}

// some are so many policies with which nothing is wrong.
func some(count int) []policy {
	var ps []policy
	for i := range count {
		ps = append(ps, policy{Name: "p" + strconv.Itoa(i), Forbid: i%3 == 2})
	}
	return ps
}

// wantWrong fails unless Pick tells that error, and nothing else.
func wantWrong(t *testing.T, what string, es []entity, ps []policy, q request, want api.Errno) {
	t.Helper()
	got, err := slice.Pick(es, ps, q)
	wantTold(t, "Pick with "+what, err, want)
	if want != api.OK && got != nil {
		t.Errorf("Pick with %s: got %s with an error", what, shown(got))
	}
}

// SL1: what is wrong with policies is told, whether they would be picked or
// not, and whatever their scopes alone would be.
func TestFaults(t *testing.T) {
	for _, f := range faults() {
		for at := 1; at < api.MaxPols; at++ {
			for _, who := range []scope{{}, {Op: api.Same, Uid: far}} {
				ps := some(api.MaxPols)
				ps[at].Who = who
				f.make(&ps[at])
				wantWrong(t, f.what, store(), ps, asked(), f.want)
				wantTold(t, "Check of "+f.what, auth.Check(ps), f.want)
			}
		}
	}
}

// SL1: of two faults is told what Check of chapter 17 names first.
func TestTwoFaults(t *testing.T) {
	for i, first := range faults() {
		for j, second := range faults() {
			ps := some(4)
			first.make(&ps[1])
			second.make(&ps[3])
			wantWrong(t, first.what+" ahead of "+second.what, store(), ps, asked(), first.want)
			if i < j && j >= 8 {
				ps = some(4)
				second.make(&ps[1])
				first.make(&ps[1])
				wantWrong(t, first.what+" and "+second.what, store(), ps, asked(), first.want)
			}
		}
	}
}

// SL1: as many policies as may be, and more; and names that are there twice,
// whether both are picked, one, or none.
func TestCount(t *testing.T) {
	for count := range api.MaxPols + 1 {
		wantPicked(t, store(), some(count), asked(), some(count))
	}
	for _, count := range []int{api.MaxPols + 1, api.MaxPols + 2, 1 << 16} {
		wantWrong(t, strconv.Itoa(count)+" policies", store(), some(count), asked(), api.ErrFull)
		wantWrong(t, strconv.Itoa(count)+" policies without names", store(), make([]policy, count), asked(), api.ErrFull)
	}
	none := scope{Op: api.Same, Uid: far}
	for _, one := range []scope{{}, none} {
		for _, other := range []scope{{}, none} {
			ps := []policy{{Name: "a", Who: one}, {Name: "b"}, {Name: "a", Who: other}}
			wantWrong(t, "a name that is there twice", store(), ps, asked(), api.ErrTwice)
		}
	}
}

// SL1: a policy whose expression has 200 nodes.
func TestNodes(t *testing.T) {
	for count, want := range map[int]api.Errno{193: api.OK, 194: api.ErrFull} {
		ps := []policy{{Name: "p", Conds: []cond{{Expr: nots(count, "x")}}}}
		wantWrong(t, strconv.Itoa(count+7)+" nodes", store(), ps, asked(), want)
	}
	var ps []policy
	for i := range api.MaxPols {
		ps = append(ps, policy{Name: "p" + strconv.Itoa(i), Conds: []cond{{Expr: nots(193, "x")}}})
	}
	wantPicked(t, store(), ps, asked(), ps)
}

// stores are some of each error.
func stores() map[api.Errno][]entity {
	return map[api.Errno][]entity{
		api.OK:        store(),
		api.ErrSyntax: {{Uid: uidOf("", "a"), Attrs: nodes{{Op: api.Rec}}}},
		api.ErrType:   {{Uid: ann, Attrs: nodes{{Op: api.Bool}}}},
		api.ErrFull:   make([]entity, api.MaxEnts+1),
		api.ErrTwice:  {store()[0], store()[1], store()[0]},
		api.ErrCycle:  {{Uid: ann, Up: []api.Uid{ann}, Attrs: nodes{{Op: api.Rec}}}},
	}
}

// requests are some of each error.
func requests() map[api.Errno][]request {
	list := map[api.Errno][]request{api.OK: {asked()}}
	add := func(want api.Errno, change func(q *request)) {
		q := asked()
		change(&q)
		list[want] = append(list[want], q)
	}
	add(api.ErrSyntax, func(q *request) { *q = request{} })
	add(api.ErrSyntax, func(q *request) { q.Who = api.Uid{} })
	add(api.ErrSyntax, func(q *request) { q.Act.Id = "\n" })
	add(api.ErrSyntax, func(q *request) { q.What.Type = "9" })
	add(api.ErrSyntax, func(q *request) { q.Context = nil })
	add(api.ErrSyntax, func(q *request) { q.Context = nodes{{Op: api.Var, S: "context"}} })
	add(api.ErrFull, func(q *request) { q.What.Id = strings.Repeat("x", api.MaxText+1) })
	add(api.ErrType, func(q *request) { q.Context = nodes{{Op: api.Set}} })
	add(api.ErrType, func(q *request) { q.Context = nodes{{Op: api.Bool, N: 1}} })
	return list
}

// SL1: what is wrong with the store is told first, then what is with the
// policies, and at last what is with the request: where no policy asks for them,
// too.
func TestErrors(t *testing.T) {
	policies := map[api.Errno][][]policy{
		api.OK:        {nil, some(2), {{Name: "p", Who: scope{Op: api.Same, Uid: far}}}},
		api.ErrSyntax: {{{Name: "p", Who: scope{Op: api.SameSlot}}}},
		api.ErrFull:   {make([]policy, api.MaxPols+1)},
		api.ErrTwice:  {{{Name: "p"}, {Name: "p"}}},
	}
	for ofStore, es := range stores() {
		wantTold(t, "Check of the store "+shown(es), ent.Check(es), ofStore)
		for ofPolicies, lists := range policies {
			for _, ps := range lists {
				for ofRequest, qs := range requests() {
					for _, q := range qs {
						wantTold(t, "Ask of "+shown(q), eval.Ask(q), ofRequest)
						want := ofRequest
						if ofPolicies != api.OK {
							want = ofPolicies
						}
						if ofStore != api.OK {
							want = ofStore
						}
						wantWrong(t, ofStore.Error()+", "+ofPolicies.Error()+", "+ofRequest.Error(), es, ps, q, want)
					}
				}
			}
		}
	}
}

// P1: policies of great lists and texts.
func TestGreat(t *testing.T) {
	name := strings.Repeat("N", 1<<20)
	for what, c := range map[string]struct {
		p    policy
		want api.Errno
	}{
		"a great name":    {policy{Name: name}, api.ErrFull},
		"a great type":    {policy{Name: "p", Who: scope{Op: api.Of, Type: name}}, api.ErrSyntax},
		"a great id":      {policy{Name: "p", What: scope{Op: api.Same, Uid: uidOf("A", name)}}, api.ErrSyntax},
		"a great Op":      {policy{Name: "p", Act: scope{Op: math.MaxInt}}, api.ErrSyntax},
		"many conditions": {policy{Name: "p", Conds: make([]cond, 1<<20)}, api.ErrFull},
		"many nodes":      {policy{Name: "p", Conds: []cond{{Expr: nots(1<<20, "x")}}}, api.ErrFull},
		"many parts":      {policy{Name: "p", Conds: []cond{{Expr: nodes{{Op: api.Set, N: math.MaxInt}}}}}, api.ErrSyntax},
	} {
		wantWrong(t, what, store(), []policy{c.p}, asked(), c.want)
	}
}

// fresh are a store, policies with conditions behind their lists, and a
// request.
func fresh() ([]entity, []policy, request) {
	var ps []policy
	for i := range 5 {
		e := append(said("principal . age"), api.Node{Op: api.Num, N: 7})
		ps = append(ps, policy{Name: "p" + strconv.Itoa(i), Forbid: i > 2, Conds: []cond{{Expr: e[:2]}, {Unless: true, Expr: e[1:2]}, {Expr: e[:2]}, {}}[:3]})
	}
	ps[1].Who = scope{Op: api.Same, Uid: far}
	return store(), ps, asked()
}

// behind has what stands behind the lists of policies, too.
func behind(ps []policy) string {
	var b strings.Builder
	for _, p := range ps[:cap(ps)] {
		for _, c := range p.Conds[:cap(p.Conds)] {
			fmt.Fprint(&b, c.Unless, c.Expr[:cap(c.Expr)])
		}
	}
	return b.String()
}

// P2, P4: nothing is written into what is handed in, nor behind it; what comes
// out is fresh, and no two lists of it share memory.
func TestMemory(t *testing.T) {
	es, ps, q := fresh()
	before := behind(ps)
	want := picked(es, ps[:4], q)
	got, err := slice.Pick(es[:2], ps[:4], q)
	wantTold(t, "Pick", err, api.OK)
	again, _ := slice.Pick(es[:2], ps[:4], q)
	for i := range got {
		for j := range got[i].Conds {
			if !slices.Equal(got[i].Conds[j].Expr, want[i].Conds[j].Expr) {
				t.Errorf("two lists of one answer share memory")
			}
			overwrite(got[i].Conds[j].Expr, api.Node{Op: api.Num, N: 8})
		}
		for j, c := range got[i].Conds {
			if c.Unless != (j == 1) {
				t.Errorf("two lists of one answer share memory")
			}
		}
		overwrite(got[i].Conds, cond{Unless: true})
	}
	overwrite(got, policy{Name: "other"})
	if !slices.EqualFunc(again, want, same) {
		t.Errorf("two answers share memory: got %s, want %s", shown(again), shown(want))
	}
	sameEs, samePs, sameQ := fresh()
	if !reflect.DeepEqual(es, sameEs) || !reflect.DeepEqual(ps, samePs) || !reflect.DeepEqual(q, sameQ) || behind(ps) != before {
		t.Errorf("it was written into what was handed in")
	}
	wantPicked(t, es, ps[:4], q, want)
}

// overwrite writes over all the memory that a list has.
func overwrite[T any](list []T, with T) {
	for i := range list[:cap(list)] {
		list[:cap(list)][i] = with
	}
}

// SL1: what is picked may be asked for as any policy.
func TestPickedMayBe(t *testing.T) {
	rng := rand.New(rand.NewPCG(18, 2))
	for range 500 {
		got, err := slice.Pick(store(), drawn(rng), asked())
		wantTold(t, "Pick", err, api.OK)
		wantTold(t, "Check of what is picked", auth.Check(got), api.OK)
		for _, p := range got {
			_, err := pol.Expr(p)
			wantTold(t, "Expr of what is picked", err, api.OK)
		}
	}
}
