package auth_test

import (
	"fmt"
	"math"
	"math/rand/v2"
	"reflect"
	"slices"
	"strconv"
	"strings"
	"testing"

	"wicketgate/api"
	"wicketgate/auth"
	"wicketgate/ent"
	"wicketgate/eval"
	"wicketgate/phrase"
	"wicketgate/plain"
	"wicketgate/pol"
	"wicketgate/word"
)

// Short forms of what every call here is about.
type (
	nodes   = []api.Node
	scope   = api.Scope
	cond    = api.Cond
	policy  = api.Policy
	entity  = api.Entity
	request = api.Request
)

func uidOf(kind, id string) api.Uid { return api.Uid{Type: kind, Id: id} }

// wantTold fails unless this is the error that is wanted.
func wantTold(t *testing.T, call string, err error, want api.Errno) {
	t.Helper()
	if plain.Told(err) != want || want == api.OK && err != nil {
		t.Errorf("%s: got %v, want %v", call, err, want)
	}
}

// shown has no more of a thing than a message can bear.
func shown(x any) string {
	s := fmt.Sprintf("%+q", fmt.Sprint(x))
	if len(s) > 1000 {
		s = s[:1000] + "..."
	}
	return s
}

// said is the expression of a text.
func said(s string) nodes {
	ts, _, err := word.Read(s)
	if err != nil {
		panic(s + ": " + err.Error())
	}
	e, _, err := phrase.Parse(ts)
	if err != nil {
		panic(s + ": " + err.Error())
	}
	return e
}

// when and unless are conditions.
func when(s string) cond   { return cond{Expr: said(s)} }
func unless(s string) cond { return cond{Unless: true, Expr: said(s)} }

// nots is so many Not about a name.
func nots(count int, s string) nodes {
	return append(slices.Repeat(nodes{{Op: api.Not}}, count), api.Node{Op: api.Var, S: s})
}

// Whom the tests speak of: ann, who is below the team, which is below all.
var (
	ann  = uidOf("User", "ann")
	see  = uidOf("Action", "see")
	read = uidOf("Action", "read")
	team = uidOf("Group", "team")
	all  = uidOf("Group", "all")
	far  = uidOf("Group", "far")
)

// store has ann and the team; neither all nor far is in it.
func store() []entity {
	return []entity{
		{Uid: ann, Up: []api.Uid{team}, Attrs: said("{ age : 17 , boss : Group :: \"far\" , good : true }")},
		{Uid: team, Up: []api.Uid{all}, Attrs: nodes{{Op: api.Rec}}},
		{Uid: see, Up: []api.Uid{read}, Attrs: nodes{{Op: api.Rec}}},
	}
}

// asked is ann's request to see the team.
func asked() request {
	return request{Who: ann, Act: see, What: team, Context: said("{ many : [ 1 , 2 ] , most : 9223372036854775807 , no : false }")}
}

// What becomes of a policy.
const (
	idle  = iota // its expression is false
	holds        // it is true
	wrong        // it has an error
)

// shape is a policy but for its name and for what it does where it holds, and
// what becomes of it where ann asks to see the team.
type shape struct {
	policy policy
	fate   int
}

// sides are the three scopes of a policy, each with scopes that hold and with
// those that do not.
func sides() []shape {
	var list []shape
	add := func(s scope, who, act, what int) {
		list = append(list, shape{policy{Who: s}, who}, shape{policy{Act: s}, act}, shape{policy{What: s}, what})
	}
	add(scope{Op: api.Same, Uid: ann}, holds, idle, idle)
	add(scope{Op: api.Same, Uid: see}, idle, holds, idle)
	add(scope{Op: api.Same, Uid: team}, idle, idle, holds)
	add(scope{Op: api.Same, Uid: all}, idle, idle, idle)
	add(scope{Op: api.Below, Uid: ann}, holds, idle, idle)
	add(scope{Op: api.Below, Uid: team}, holds, idle, holds)
	add(scope{Op: api.Below, Uid: all}, holds, idle, holds)
	add(scope{Op: api.Below, Uid: read}, idle, holds, idle)
	add(scope{Op: api.Below, Uid: far}, idle, idle, idle)
	add(scope{Op: api.Of, Type: "User"}, holds, idle, idle)
	add(scope{Op: api.Of, Type: "Action"}, idle, holds, idle)
	add(scope{Op: api.Of, Type: "Group"}, idle, idle, holds)
	add(scope{Op: api.Of, Type: "Far"}, idle, idle, idle)
	add(scope{Op: api.OfBelow, Type: "User", Uid: all}, holds, idle, idle)
	add(scope{Op: api.OfBelow, Type: "Action", Uid: read}, idle, holds, idle)
	add(scope{Op: api.OfBelow, Type: "Group", Uid: all}, idle, idle, holds)
	add(scope{Op: api.OfBelow, Type: "User", Uid: far}, idle, idle, idle)
	return list
}

// shapes are policies of all fates.
func shapes() []shape {
	under := func(fate int, conds ...cond) shape { return shape{policy{Conds: conds}, fate} }
	none := scope{Op: api.Same, Uid: far}
	lost := "resource . age == 1 || principal . boss . age == 1"
	return append(sides(),
		under(holds), under(holds, when("true")), under(idle, when("false")), under(idle, unless("true")), under(holds, unless("false")),
		under(holds, when("principal . age < 18"), unless("context . no"), when("principal in resource"), when("principal . good")),
		under(idle, when("principal . age < 18"), when("true"), unless("context . no"), when("principal . age < 17")),
		under(holds, when(`! ( principal == "ann" ) && action == Action :: "see" && principal . boss == Group :: "far"`)),
		// What names nothing, is not there, is lost, is of another kind, or is too great.
		under(wrong, when("x")), under(wrong, unless("x")), under(wrong, when("principal . name")), under(wrong, when("context . age == 1")), under(wrong, when(lost)), under(wrong, unless("principal . boss . age == 1")),
		under(wrong, when("1 < true")), under(wrong, when("context . most + 1 == 1")), under(wrong, unless("principal < resource")), under(wrong, when("true && x")), under(wrong, unless("false || x")),
		// What has a value that is no truth.
		under(wrong, when("1")), under(wrong, when("0")), under(wrong, unless("0")), under(wrong, when(`"true"`)), under(wrong, when("principal")), under(wrong, unless("context")), under(wrong, when("[ true ]")), under(wrong, when("{ }")), under(wrong, unless("context . many")), under(wrong, when("true"), when("principal . age")),
		// What is not asked for any more, and what is asked for first.
		under(holds, when("true || x")), under(idle, when("false && x")), under(holds, when("if principal . good then true else x")),
		under(idle, when("false"), when("x")), under(idle, unless("true"), when("1")), under(wrong, when("x"), when("false")), under(wrong, when("1"), unless("true")), under(wrong, when("true"), unless("x"), when("false")),
		shape{policy{Who: none, Conds: []cond{when("x")}}, idle}, shape{policy{Act: none, Conds: []cond{when("1")}}, idle}, shape{policy{What: none, Conds: []cond{unless("x"), when("x")}}, idle},
		shape{policy{Who: scope{Op: api.Below, Uid: all}, What: scope{Op: api.Of, Type: "Group"}, Conds: []cond{unless("x")}}, wrong},
		shape{policy{Who: scope{Op: api.Below, Uid: all}, What: scope{Op: api.Of, Type: "Group"}, Conds: []cond{unless("false")}}, holds},
		shape{policy{Who: scope{Op: api.Below, Uid: all}, Act: scope{Op: api.Same, Uid: read}}, idle},
	)
}

// ruled is a policy with a fate.
type ruled struct {
	policy
	fate int
}

// rule names a shape, and has it permit or forbid.
func (s shape) rule(name string, forbid bool) ruled {
	r := ruled{s.policy, s.fate}
	r.Name, r.Forbid = name, forbid
	return r
}

func policiesOf(rs []ruled) []policy {
	var ps []policy
	for _, r := range rs {
		ps = append(ps, r.policy)
	}
	return ps
}

// answerOf is what the chapter says of policies of such fates.
func answerOf(rs []ruled) api.Answer {
	names := func(is func(r ruled) bool) []string {
		var list []string
		for _, r := range rs {
			if is(r) {
				list = append(list, r.Name)
			}
		}
		return list
	}
	a := api.Answer{
		By:    names(func(r ruled) bool { return r.fate == holds && r.Forbid }),
		Wrong: names(func(r ruled) bool { return r.fate == wrong }),
	}
	if a.By == nil {
		a.By = names(func(r ruled) bool { return r.fate == holds })
		a.Allow = a.By != nil
	}
	return a
}

// same tells if two answers are, where an empty list and nil are the same.
func same(a, b api.Answer) bool {
	return a.Allow == b.Allow && slices.Equal(a.By, b.By) && slices.Equal(a.Wrong, b.Wrong)
}

// wantAnswer fails unless Ask has that answer.
func wantAnswer(t *testing.T, es []entity, ps []policy, q request, want api.Answer) {
	t.Helper()
	got, err := auth.Ask(es, ps, q)
	if err != nil || !same(got, want) {
		t.Fatalf("Ask of %s with %s: got %s and %v, want %s", shown(q), shown(ps), shown(got), err, shown(want))
	}
}

// AU2: a policy holds where the value of its expression is true, and is wrong
// where it has an error, or a value that is no Bool.
func TestFates(t *testing.T) {
	for _, s := range shapes() {
		p := s.rule("p", false).policy
		wantTold(t, "Check of "+shown(p), auth.Check([]policy{p}), api.OK)
		if got := fateOf(store(), p, asked()); got != s.fate {
			t.Errorf("%s: chapters 10 and 15 have %d, the test %d", shown(p), got, s.fate)
		}
	}
}

// fateOf is what becomes of a policy, as chapters 10 and 15 have it.
func fateOf(es []entity, p policy, q request) int {
	e, err := pol.Expr(p)
	if err != nil {
		panic(err)
	}
	v, err := eval.Value(es, q, e)
	switch {
	case err != nil || v[0].Op != api.Bool:
		return wrong
	case v[0].N == 1:
		return holds
	}
	return idle
}

// AU2: without policies nothing is allowed, and one alone decides, is wrong, or
// does nothing.
func TestAskOfOne(t *testing.T) {
	wantAnswer(t, nil, nil, asked(), api.Answer{})
	wantAnswer(t, store(), []policy{}, asked(), api.Answer{})
	for _, s := range shapes() {
		for _, forbid := range []bool{false, true} {
			p := s.rule("p", forbid).policy
			want := api.Answer{}
			switch s.fate {
			case holds:
				want = api.Answer{Allow: !forbid, By: []string{"p"}}
			case wrong:
				want = api.Answer{Wrong: []string{"p"}}
			}
			wantAnswer(t, store(), []policy{p}, asked(), want)
		}
	}
}

// AU2: two of all shapes.
func TestAskOfTwo(t *testing.T) {
	for i, s := range shapes() {
		for j, other := range shapes() {
			rs := []ruled{s.rule("b", (i+j)%2 == 0), other.rule("a", (i+j)%4 < 2)}
			wantAnswer(t, store(), policiesOf(rs), asked(), answerOf(rs))
		}
	}
}

// AU2: some of each fate, permitting and forbidding, in all orders of up to
// four.
func TestAskOfFew(t *testing.T) {
	few := []shape{{policy{}, holds}, {policy{What: scope{Op: api.Same, Uid: far}}, idle}, {policy{Conds: []cond{when("x")}}, wrong}}
	var grow func(rs []ruled)
	grow = func(rs []ruled) {
		wantAnswer(t, store(), policiesOf(rs), asked(), answerOf(rs))
		if len(rs) == 4 {
			return
		}
		// Names fall in order, so that sorted ones would be told otherwise.
		name := string(rune('z' - len(rs)))
		for _, s := range few {
			for _, forbid := range []bool{false, true} {
				grow(append(slices.Clip(rs), s.rule(name, forbid)))
			}
		}
	}
	grow(nil)
}

// drawn are up to so many policies.
func drawn(rng *rand.Rand, from []shape, most int) []ruled {
	var rs []ruled
	for i := range rng.IntN(most + 1) {
		name := "p" + strconv.Itoa((i*7+3)%most)
		rs = append(rs, from[rng.IntN(len(from))].rule(name, rng.IntN(4) == 0))
	}
	return rs
}

// AU2: forbid trumps permit; the order of the policies is no matter but for
// that of the names; and those that neither hold nor are wrong do not matter.
func TestAskOfMany(t *testing.T) {
	rng := rand.New(rand.NewPCG(17, 2))
	from := shapes()
	allowed := 0
	for range 3000 {
		rs := drawn(rng, from, api.MaxPols)
		want := answerOf(rs)
		wantAnswer(t, store(), policiesOf(rs), asked(), want)
		if want.Allow {
			allowed++
		}
		rng.Shuffle(len(rs), func(i, j int) { rs[i], rs[j] = rs[j], rs[i] })
		got, err := auth.Ask(store(), policiesOf(rs), asked())
		if err != nil || got.Allow != want.Allow || !same(sorted(got), sorted(want)) {
			t.Fatalf("Ask with %s: got %s and %v, want %s in another order", shown(rs), shown(got), err, shown(want))
		}
		rs = slices.DeleteFunc(rs, func(r ruled) bool { return r.fate == idle })
		wantAnswer(t, store(), policiesOf(rs), asked(), got)
	}
	if allowed < 300 {
		t.Errorf("only %d requests were allowed", allowed)
	}
}

// sorted has the names in order.
func sorted(a api.Answer) api.Answer {
	a.By, a.Wrong = slices.Sorted(slices.Values(a.By)), slices.Sorted(slices.Values(a.Wrong))
	return a
}

// AU2: other requests, in other stores, of which the same policies have other
// fates.
func TestAskOfOthers(t *testing.T) {
	rng := rand.New(rand.NewPCG(17, 3))
	from := shapes()
	uids := []api.Uid{ann, see, read, team, all, far}
	contexts := []nodes{{{Op: api.Rec}}, said("{ age : 1 , no : true }"), said("{ many : 1 , most : 0 , no : 1 }"), asked().Context}
	uid := func() api.Uid { return uids[rng.IntN(len(uids))] }
	seen := [3]int{}
	for range 3000 {
		es := slices.Clone(store())
		rng.Shuffle(len(es), func(i, j int) { es[i], es[j] = es[j], es[i] })
		es = es[:rng.IntN(len(es)+1)]
		q := request{Who: uid(), Act: uid(), What: uid(), Context: contexts[rng.IntN(len(contexts))]}
		rs := drawn(rng, from, 5)
		for i, r := range rs {
			rs[i].fate = fateOf(es, r.policy, q)
			seen[rs[i].fate]++
		}
		wantAnswer(t, es, policiesOf(rs), q, answerOf(rs))
	}
	if slices.Min(seen[:]) < 500 {
		t.Errorf("too few of a fate: %v", seen)
	}
}

// fault is what makes a policy none of those that may be, where an earlier one
// has the name p1, and what is told of it.
type fault struct {
	what string
	make func(p *policy)
	want api.Errno
}

// faults are some of each, in the order in which they are told: what Check of
// chapter 15 has, and then the others.
func faults() []fault {
	return []fault{
		{"no name", func(p *policy) { p.Name = "" }, api.ErrSyntax},
		{"a long name", func(p *policy) { p.Name = strings.Repeat("N", api.MaxName+1) }, api.ErrFull},
		{"a scope that is none", func(p *policy) { p.What = scope{Op: api.BelowSlot + 1} }, api.ErrSyntax},
		{"a slot of Act", func(p *policy) { p.Act = scope{Op: api.SameSlot} }, api.ErrSyntax},
		{"5 conditions", func(p *policy) { p.Conds = slices.Repeat([]cond{when("true")}, api.MaxConds+1) }, api.ErrFull},
		{"a condition that is none", func(p *policy) { p.Conds = append(slices.Clip(p.Conds), cond{}) }, api.ErrSyntax},
		{"a condition of 201 nodes", func(p *policy) { p.Conds = append(slices.Clip(p.Conds), cond{Expr: nots(200, "x")}) }, api.ErrFull},
		{"a condition of nodes out of order", func(p *policy) {
			p.Conds = append(slices.Clip(p.Conds), cond{Expr: nodes{{Op: api.Var, S: "x"}, {Op: api.Var, S: "x"}}})
		}, api.ErrSyntax},
		{"a slot in a condition", func(p *policy) { p.Conds = append(slices.Clip(p.Conds), when("?principal")) }, api.ErrSyntax},
		{"a name once more", func(p *policy) { p.Name = "p1" }, api.ErrTwice},
		{"201 nodes", func(p *policy) { p.Conds = append(slices.Clip(p.Conds), cond{Expr: nots(194, "x")}) }, api.ErrFull},
		{"a slot of Who", func(p *policy) { p.Who = scope{Op: api.SameSlot} }, api.ErrSyntax},
		{"a slot of What", func(p *policy) { p.What = scope{Op: api.BelowSlot} }, api.ErrSyntax},
	}
}

// ofCheck is how many of the faults Check of chapter 15 tells.
const ofCheck = 9

// some are so many policies with which nothing is wrong.
func some(count int) []policy {
	var ps []policy
	for i := range count {
		ps = append(ps, policy{Name: "p" + strconv.Itoa(i+1), Forbid: i%3 == 2})
	}
	return ps
}

// wantWrong fails unless Check and Ask tell that error of policies, and nothing
// else.
func wantWrong(t *testing.T, what string, ps []policy, want api.Errno) {
	t.Helper()
	wantTold(t, "Check of "+what, auth.Check(ps), want)
	got, err := auth.Ask(store(), ps, asked())
	wantTold(t, "Ask with "+what, err, want)
	if want != api.OK && !reflect.DeepEqual(got, api.Answer{}) {
		t.Errorf("Ask with %s: got %s with an error", what, shown(got))
	}
}

// AU1: each fault, of a policy anywhere behind the first one.
func TestFaults(t *testing.T) {
	for i, f := range faults() {
		for count := 2; count <= api.MaxPols; count += 5 {
			for at := 1; at < count; at++ {
				ps := some(count)
				f.make(&ps[at])
				wantWrong(t, f.what, ps, f.want)
				if told := plain.Told(pol.Check(ps[at])); told != f.want && i < ofCheck || told != api.OK && i >= ofCheck {
					t.Errorf("Check of chapter 15 tells %v of %s", told, f.what)
				}
			}
		}
	}
}

// AU1: of two faults of a policy that is told which the chapter names first.
func TestFaultsOfOne(t *testing.T) {
	for i, first := range faults() {
		for _, second := range faults()[max(i+1, ofCheck):] {
			ps := some(3)
			second.make(&ps[1])
			first.make(&ps[1])
			wantWrong(t, first.what+" and "+second.what, ps, first.want)
		}
	}
}

// AU1: what is wrong with one policy is told ahead of what is wrong with the
// next.
func TestFaultsOfTwo(t *testing.T) {
	for _, first := range faults() {
		for _, second := range faults() {
			for at := 2; at < 5; at++ {
				ps := some(5)
				first.make(&ps[1])
				second.make(&ps[at])
				wantWrong(t, first.what+" ahead of "+second.what, ps, first.want)
			}
		}
	}
}

// AU1: as many as may be, and more, whatever is wrong with them besides.
func TestCount(t *testing.T) {
	for count := range api.MaxPols + 1 {
		wantWrong(t, strconv.Itoa(count)+" policies", some(count), api.OK)
	}
	for _, count := range []int{api.MaxPols + 1, api.MaxPols + 2, 1 << 16} {
		wantWrong(t, strconv.Itoa(count)+" policies", some(count), api.ErrFull)
		wantWrong(t, strconv.Itoa(count)+" policies without names", make([]policy, count), api.ErrFull)
		wantWrong(t, strconv.Itoa(count)+" policies alike", slices.Repeat(some(1), count), api.ErrFull)
	}
	for _, f := range faults() {
		ps := some(api.MaxPols + 1)
		f.make(&ps[1])
		wantWrong(t, "13 policies and "+f.what, ps, api.ErrFull)
	}
}

// AU1: a name is there twice where it is the same to the byte, whatever else
// the policies are.
func TestTwice(t *testing.T) {
	long := strings.Repeat("N", api.MaxName)
	for _, c := range []struct {
		names []string
		want  api.Errno
	}{
		{[]string{"a", "A", "_a", "a_", "aa"}, api.OK},
		{[]string{"permit", "forbid", "in", "principal", "when"}, api.OK},
		{[]string{long, long[1:], long[2:] + "n"}, api.OK},
		{[]string{long, long[1:], long}, api.ErrTwice},
		{[]string{"a", "b", "c", "d", "e", "f", "g", "h", "i", "j", "k", "a"}, api.ErrTwice},
		{[]string{"a", "b", "c", "d", "e", "f", "g", "h", "i", "j", "k", "k"}, api.ErrTwice},
		{[]string{"a", "a"}, api.ErrTwice},
		{[]string{"a", "b", "b", "a"}, api.ErrTwice},
	} {
		var ps []policy
		for i, name := range c.names {
			ps = append(ps, shapes()[i*5].rule(name, i%2 == 1).policy)
		}
		wantWrong(t, shown(c.names), ps, c.want)
	}
}

// AU1: a policy has an expression of at most 200 nodes.
func TestNodes(t *testing.T) {
	of := func(conds ...cond) []policy { return []policy{{Name: "p", Conds: conds}} }
	for what, c := range map[string]struct {
		ps   []policy
		want api.Errno
	}{
		"200 nodes":                {of(cond{Expr: nots(193, "x")}), api.OK},
		"201 nodes":                {of(cond{Expr: nots(194, "x")}), api.ErrFull},
		"200 nodes, unless":        {of(cond{Unless: true, Expr: nots(192, "x")}), api.OK},
		"201 nodes, unless":        {of(cond{Unless: true, Expr: nots(193, "x")}), api.ErrFull},
		"200 nodes of two":         {of(cond{Expr: nots(100, "x")}, cond{Expr: nots(91, "x")}), api.OK},
		"201 nodes of two":         {of(cond{Expr: nots(100, "x")}, cond{Expr: nots(92, "x")}), api.ErrFull},
		"a condition of 200 nodes": {of(cond{Expr: nots(199, "x")}), api.ErrFull},
		"four of 200 nodes":        {of(slices.Repeat([]cond{{Expr: nots(199, "x")}}, 4)...), api.ErrFull},
	} {
		wantWrong(t, what, c.ps, c.want)
	}
	var ps []policy
	for i := range api.MaxPols {
		ps = append(ps, policy{Name: "p" + strconv.Itoa(i), Conds: []cond{{Expr: nots(193, "x")}}})
	}
	wantWrong(t, "12 policies of 200 nodes", ps, api.OK)
}

// AU1: slots, of each side and of both.
func TestSlots(t *testing.T) {
	for _, op := range []int{api.SameSlot, api.BelowSlot} {
		for _, forbid := range []bool{false, true} {
			slot := scope{Op: op}
			wantWrong(t, "a slot of Who", []policy{{Name: "p", Forbid: forbid, Who: slot}}, api.ErrSyntax)
			wantWrong(t, "a slot of What", []policy{{Name: "p", Forbid: forbid, What: slot}}, api.ErrSyntax)
			wantWrong(t, "slots of both", []policy{{Name: "p", Forbid: forbid, Who: slot, What: slot}}, api.ErrSyntax)
			wantWrong(t, "a slot of Act", []policy{{Name: "p", Forbid: forbid, Act: slot}}, api.ErrSyntax)
		}
	}
}

// AU2: what is wrong with the store is told first, then what is with the
// policies, and at last what is with the request.
func TestAskErrors(t *testing.T) {
	stores := map[api.Errno][]entity{
		api.OK:        store(),
		api.ErrSyntax: {{Uid: uidOf("", "a"), Attrs: nodes{{Op: api.Rec}}}},
		api.ErrType:   {{Uid: ann, Attrs: nodes{{Op: api.Bool}}}},
		api.ErrFull:   make([]entity, api.MaxEnts+1),
		api.ErrTwice:  {store()[0], store()[1], store()[0]},
		api.ErrCycle:  {{Uid: ann, Up: []api.Uid{ann}, Attrs: nodes{{Op: api.Rec}}}},
	}
	policies := map[api.Errno][]policy{
		api.OK:        {{Name: "p"}, {Name: "q"}},
		api.ErrSyntax: {{Name: "p", Who: scope{Op: api.SameSlot}}},
		api.ErrFull:   make([]policy, api.MaxPols+1),
		api.ErrTwice:  {{Name: "p"}, {Name: "p"}},
	}
	requests := map[api.Errno][]request{api.OK: {asked()}}
	add := func(want api.Errno, change func(q *request)) {
		q := asked()
		change(&q)
		requests[want] = append(requests[want], q)
	}
	add(api.ErrSyntax, func(q *request) { *q = request{} })
	add(api.ErrSyntax, func(q *request) { q.Who = api.Uid{} })
	add(api.ErrSyntax, func(q *request) { q.Act.Id = "\n" })
	add(api.ErrSyntax, func(q *request) { q.What.Type = "9" })
	add(api.ErrSyntax, func(q *request) { q.Context = nil })
	add(api.ErrSyntax, func(q *request) { q.Context = nodes{{Op: api.Var, S: "context"}} })
	add(api.ErrFull, func(q *request) { q.What.Id = strings.Repeat("x", api.MaxText+1) })
	add(api.ErrType, func(q *request) { q.Context = nodes{{Op: api.Set}} })
	add(api.ErrType, func(q *request) { q.Context = nodes{{Op: api.Bool, N: 1}} })
	for ofStore, es := range stores {
		wantTold(t, "Check of the store "+shown(es), ent.Check(es), ofStore)
		for ofPolicies, ps := range policies {
			for ofRequest, qs := range requests {
				for _, q := range qs {
					wantTold(t, "Ask of "+shown(q), eval.Ask(q), ofRequest)
					want := ofStore
					if want == api.OK {
						want = ofPolicies
					}
					if want == api.OK {
						want = ofRequest
					}
					got, err := auth.Ask(es, ps, q)
					wantTold(t, "Ask with "+ofStore.Error()+", "+ofPolicies.Error()+", "+ofRequest.Error(), err, want)
					if want != api.OK && !reflect.DeepEqual(got, api.Answer{}) {
						t.Errorf("got %s with an error", shown(got))
					}
				}
			}
		}
	}
	// What is wrong is told where no policy asks for it, too.
	_, err := auth.Ask(stores[api.ErrCycle], nil, asked())
	wantTold(t, "Ask with no policies", err, api.ErrCycle)
	_, err = auth.Ask(nil, nil, request{})
	wantTold(t, "Ask with no policies", err, api.ErrSyntax)
}

// P1: policies of great lists and texts.
func TestGreat(t *testing.T) {
	name := strings.Repeat("N", 1<<20)
	wantWrong(t, "a great name", []policy{{Name: name}, {Name: name}}, api.ErrFull)
	wantWrong(t, "a great type", []policy{{Name: "p", Who: scope{Op: api.Of, Type: name}, Conds: make([]cond, 1<<20)}}, api.ErrSyntax)
	wantWrong(t, "many conditions", []policy{{Name: "p", Conds: make([]cond, 1<<20)}}, api.ErrFull)
	wantWrong(t, "many nodes", []policy{{Name: "p", Conds: []cond{{Expr: nots(1<<20, "x")}}}}, api.ErrFull)
	wantWrong(t, "many parts", []policy{{Name: "p", Conds: []cond{{Expr: nodes{{Op: api.Set, N: math.MaxInt}}}}}}, api.ErrSyntax)
}

// P2, P4: nothing is written into what is handed in, nor behind it, and what
// comes out is fresh.
func TestMemory(t *testing.T) {
	fresh := func() ([]entity, []policy, request) {
		var ps []policy
		for i, s := range []string{"true", "x", "true", "x", "false", "true"} {
			ps = append(ps, policy{Name: "p" + strconv.Itoa(i), Forbid: i > 4, Conds: []cond{when(s), unless("false"), {}}[:2]})
		}
		return store(), ps, asked()
	}
	es, ps, q := fresh()
	for count, want := range map[int]api.Answer{
		5: {Allow: true, By: []string{"p0", "p2"}, Wrong: []string{"p1", "p3"}},
		6: {By: []string{"p5"}, Wrong: []string{"p1", "p3"}},
	} {
		one, err := auth.Ask(es[:2], ps[:count], q)
		wantTold(t, "Ask", err, api.OK)
		overwrite(one.By)
		if !slices.Equal(one.Wrong, want.Wrong) {
			t.Errorf("two lists of one answer share memory")
		}
		overwrite(one.Wrong)
		wantAnswer(t, es[:2], ps[:count], q, want)
	}
	wantTold(t, "Check", auth.Check(ps[:3]), api.OK)
	sameEs, samePs, sameQ := fresh()
	if !reflect.DeepEqual(es, sameEs) || !reflect.DeepEqual(ps, samePs) || !reflect.DeepEqual(q, sameQ) {
		t.Errorf("it was written into what was handed in")
	}
	for _, p := range ps {
		if !reflect.DeepEqual(p.Conds[:3][2], cond{}) {
			t.Errorf("it was written behind %s", shown(p.Conds))
		}
	}
}

// overwrite writes over all the memory that a list has.
func overwrite(list []string) {
	for i := range list[:cap(list)] {
		list[:cap(list)][i] = "other"
	}
}
