package link_test

import (
	"fmt"
	"math"
	"reflect"
	"slices"
	"strings"
	"testing"

	"wicketgate/api"
	"wicketgate/link"
	"wicketgate/name"
	"wicketgate/plain"
	"wicketgate/pol"
	"wicketgate/tree"
)

// Short forms of what every call here is about.
type (
	nodes  = []api.Node
	scope  = api.Scope
	cond   = api.Cond
	policy = api.Policy
)

func uidOf(kind, id string) api.Uid { return api.Uid{Type: kind, Id: id} }

// wantTold fails unless this is the error that is wanted.
func wantTold(t *testing.T, call string, err error, want api.Errno) {
	t.Helper()
	if plain.Told(err) != want || want == api.OK && err != nil {
		t.Errorf("%s: got %v, want %v", call, err, want)
	}
}

// shown has no more of a thing than a message can bear.
func shown(x any) string {
	s := fmt.Sprintf("%+q", fmt.Sprint(x))
	if len(s) > 1000 {
		s = s[:1000] + "..."
	}
	return s
}

// same tells if two policies are, where an empty list and nil are the same.
func same(a, b policy) bool {
	conds := slices.EqualFunc(a.Conds, b.Conds, func(x, y cond) bool {
		return x.Unless == y.Unless && slices.Equal(x.Expr, y.Expr)
	})
	a.Conds, b.Conds = nil, nil
	return conds && reflect.DeepEqual(a, b)
}

// cloned shares no memory with a policy.
func cloned(p policy) policy {
	p.Conds = slices.Clone(p.Conds)
	for i, c := range p.Conds {
		p.Conds[i].Expr = slices.Clone(c.Expr)
	}
	return p
}

func variable(s string) nodes { return nodes{{Op: api.Var, S: s}} }

// nots is so many Not about an expression.
func nots(count int, e nodes) nodes {
	return append(slices.Repeat(nodes{{Op: api.Not}}, count), e...)
}

var (
	longName = strings.Repeat("N", api.MaxName)
	longText = strings.Repeat("x", api.MaxText)
)

// slotless are scopes that have no slot, one of each Op, and more that look
// much like those that are linked.
func slotless() []scope {
	return []scope{
		{},
		{Op: api.Same, Uid: uidOf("A", "a")},
		{Op: api.Same, Uid: uidOf("W", "?principal")},
		{Op: api.Below, Uid: uidOf("B", "")},
		{Op: api.Below, Uid: uidOf(longName, longText)},
		{Op: api.Of, Type: "A"},
		{Op: api.OfBelow, Type: "A", Uid: uidOf("B", "b")},
	}
}

// slots are the scopes that have one, with what they become.
func slots() map[scope]int {
	return map[scope]int{{Op: api.SameSlot}: api.Same, {Op: api.BelowSlot}: api.Below}
}

// filling is a policy, whose slots it has, and what it is where who and what
// are put for them.
type filling struct {
	policy policy
	slots  []string
	linked func(who, what api.Uid) policy
}

// end is a scope, and what becomes of it.
type end struct {
	scope scope
	slot  bool
	with  func(u api.Uid) scope
}

// ends are all scopes that Who, and What, may have here.
func ends() []end {
	var all []end
	for _, s := range slotless() {
		all = append(all, end{s, false, func(api.Uid) scope { return s }})
	}
	for s, op := range slots() {
		all = append(all, end{s, true, func(u api.Uid) scope { return scope{Op: op, Uid: u} }})
	}
	return all
}

// conditions are lists of them that a policy may have.
func conditions() [][]cond {
	lone := []cond{{Expr: variable("a")}}
	texts := []cond{{Unless: true, Expr: nodes{{Op: api.Eq}, {Op: api.Text, S: "?principal"}, {Op: api.Ent, S: "W", T: "?resource"}}}}
	full := []cond{
		{Expr: nots(199, variable("principal"))},
		{Unless: true, Expr: nodes{{Op: api.In}, {Op: api.Var, S: "resource"}, {Op: api.Ent, S: "A", T: "a"}}},
		{Unless: true, Expr: nots(1, variable("resource"))},
		{Expr: nodes{{Op: api.Bool, N: 1}}},
	}
	return [][]cond{nil, {}, lone, texts, full}
}

// fillings are policies of all kinds.
func fillings() []filling {
	var all []filling
	for _, who := range ends() {
		for _, act := range slotless() {
			for _, what := range ends() {
				for _, conds := range conditions() {
					p := policy{Name: []string{"p", "Link", longName}[len(all)%3], Forbid: len(all)%2 == 1, Who: who.scope, Act: act, What: what.scope, Conds: conds}
					var had []string
					if who.slot {
						had = append(had, "?principal")
					}
					if what.slot {
						had = append(had, "?resource")
					}
					all = append(all, filling{p, had, func(w, x api.Uid) policy {
						q := cloned(p)
						q.Who, q.What = who.with(w), what.with(x)
						return q
					}})
				}
			}
		}
	}
	return all
}

// LK1: the slots of each policy, ?principal ahead of ?resource.
func TestSlots(t *testing.T) {
	for _, f := range fillings() {
		got, err := link.Slots(f.policy)
		if err != nil || !slices.Equal(got, f.slots) {
			t.Fatalf("Slots of %s: got %s and %v, want %s", shown(f.policy), shown(got), err, shown(f.slots))
		}
	}
}

// LK1: the slots of a policy are those for which its expression has names.
func TestSlotsOfExpr(t *testing.T) {
	for _, f := range fillings() {
		e, err := pol.Expr(f.policy)
		if err != nil {
			continue // There would be too many nodes, which does not matter here.
		}
		vars, err := tree.Vars(e)
		wantTold(t, "Vars", err, api.OK)
		vars = slices.DeleteFunc(vars, func(s string) bool { return s[0] != '?' })
		slices.Sort(vars)
		if got, err := link.Slots(f.policy); err != nil || !slices.Equal(got, vars) {
			t.Fatalf("Slots of %s: got %s and %v, want %s", shown(f.policy), shown(got), err, shown(vars))
		}
	}
}

// LK2: each policy with uids put for its slots, and all the rest as it was.
func TestLink(t *testing.T) {
	for i, f := range fillings() {
		pairs := [][2]api.Uid{
			{uidOf("W", "w"), uidOf("X", "x")}, {uidOf("A", "a"), uidOf("A", "a")},
			{uidOf(longName, longText), uidOf("_", "")}, {uidOf("_", ""), uidOf("in", `"\ ~`)},
		}
		pair := pairs[i%len(pairs)]
		got, err := link.Link(f.policy, pair[0], pair[1])
		want := f.linked(pair[0], pair[1])
		if err != nil || !same(got, want) {
			t.Fatalf("Link of %s with %s: got %s and %v, want %s", shown(f.policy), shown(pair), shown(got), err, shown(want))
		}
		wantTold(t, "Check of "+shown(got), pol.Check(got), api.OK)
		if left, err := link.Slots(got); err != nil || len(left) != 0 {
			t.Fatalf("Slots of %s: got %s and %v, want none", shown(got), shown(left), err)
		}
		if again, err := link.Link(got, api.Uid{}, api.Uid{}); err != nil || !same(again, got) {
			t.Fatalf("Link of %s, which has no slots: got %s and %v", shown(got), shown(again), err)
		}
	}
}

// LK2: it is the policy that is read where its slots were written over.
func TestLinkOfTexts(t *testing.T) {
	for text, want := range map[string]string{
		"p : permit ( principal , action , resource )":                                     "p : permit ( principal , action , resource )",
		"p : permit ( principal == ?principal , action , resource )":                       `p : permit ( principal == W :: "w" , action , resource )`,
		"p : forbid ( principal in ?principal , action , resource is A )":                  `p : forbid ( principal in W :: "w" , action , resource is A )`,
		"p : permit ( principal is A , action , resource == ?resource )":                   `p : permit ( principal is A , action , resource == X :: "x" )`,
		"p : permit ( principal , action , resource in ?resource ) when { a }":             `p : permit ( principal , action , resource in X :: "x" ) when { a }`,
		"p : permit ( principal in ?principal , action , resource in ?resource )":          `p : permit ( principal in W :: "w" , action , resource in X :: "x" )`,
		`p : permit ( principal == ?principal , action is A in A :: "a" , resource )`:      `p : permit ( principal == W :: "w" , action is A in A :: "a" , resource )`,
		`p : forbid ( principal == A :: "a" , action in A :: "a" , resource )`:             `p : forbid ( principal == A :: "a" , action in A :: "a" , resource )`,
		`p : permit ( principal , action , resource == ?resource ) unless { "?resource" }`: `p : permit ( principal , action , resource == X :: "x" ) unless { "?resource" }`,
	} {
		p, err := pol.Read(text)
		wantTold(t, "Read of "+text, err, api.OK)
		q, err := link.Link(p, uidOf("W", "w"), uidOf("X", "x"))
		wantTold(t, "Link of "+text, err, api.OK)
		if got, err := pol.Write(q); err != nil || got != want {
			t.Errorf("Link of %s: got %s and %v, want %s", text, got, err, want)
		}
	}
}

// A uid that is none, and what is told of it.
type fault struct {
	uid  api.Uid
	want api.Errno
}

func faults() []fault {
	return []fault{
		{api.Uid{}, api.ErrSyntax}, {uidOf("", "a"), api.ErrSyntax}, {uidOf("9", "a"), api.ErrSyntax}, {uidOf("A ", "a"), api.ErrSyntax},
		{uidOf("?principal", "a"), api.ErrSyntax}, {uidOf("A", "\n"), api.ErrSyntax}, {uidOf("A", "\x7f"), api.ErrSyntax}, {uidOf("A", "\xff"), api.ErrSyntax},
		{uidOf(longName+"N", "a"), api.ErrFull}, {uidOf("A", longText+"x"), api.ErrFull}, {uidOf("A", longText+"\n"), api.ErrFull},
		{uidOf(longName+"N", "\n"), api.ErrFull}, {uidOf("", longText+"x"), api.ErrSyntax},
		{uidOf(strings.Repeat("N", 1<<12), "a"), api.ErrFull}, {uidOf("A", strings.Repeat("\x00", 1<<12)), api.ErrFull},
	}
}

// wantWrong fails unless Link tells that error, and nothing else.
func wantWrong(t *testing.T, p policy, who, what api.Uid, want api.Errno) {
	t.Helper()
	got, err := link.Link(p, who, what)
	if plain.Told(err) != want || want != api.OK && !reflect.DeepEqual(got, policy{}) {
		t.Errorf("Link of %s with %s and %s: got %s and %v, want %v", shown(p), shown(who), shown(what), shown(got), err, want)
	}
}

// LK2: what Write of chapter 1 tells of who, if there is ?principal, and of
// what, if there is ?resource; that of who comes first. Without its slot a uid
// is not looked at.
func TestLinkUids(t *testing.T) {
	good := fault{uidOf("A", "a"), api.OK}
	for _, who := range append(faults(), good) {
		_, err := name.Write(who.uid)
		wantTold(t, "Write of "+shown(who.uid), err, who.want)
		for _, what := range append(faults(), good) {
			for slot := range slots() {
				for other := range slots() {
					both := who.want
					if both == api.OK {
						both = what.want
					}
					wantWrong(t, policy{Name: "p", Who: slot, What: other}, who.uid, what.uid, both)
				}
				for _, none := range slotless() {
					wantWrong(t, policy{Name: "p", Who: slot, What: none}, who.uid, what.uid, who.want)
					wantWrong(t, policy{Name: "p", Who: none, What: slot}, who.uid, what.uid, what.want)
					wantWrong(t, policy{Name: "p", Who: none, What: none}, who.uid, what.uid, api.OK)
				}
			}
		}
	}
}

// LK1, LK2: what Check of chapter 15 tells, ahead of what is told of the uids.
func TestCheck(t *testing.T) {
	slot := scope{Op: api.SameSlot}
	whole := policy{Name: "p", Who: slot, What: scope{Op: api.BelowSlot}, Conds: []cond{{Expr: variable("a")}}}
	for what, c := range map[string]struct {
		make func(p *policy)
		want api.Errno
	}{
		"no name":                {func(p *policy) { p.Name = "" }, api.ErrSyntax},
		"a long name":            {func(p *policy) { p.Name = longName + "N" }, api.ErrFull},
		"a slot of Act":          {func(p *policy) { p.Act = slot }, api.ErrSyntax},
		"another slot of Act":    {func(p *policy) { p.Act.Op = api.BelowSlot }, api.ErrSyntax},
		"a slot that has a uid":  {func(p *policy) { p.Who.Uid = uidOf("A", "a") }, api.ErrSyntax},
		"a slot that has a type": {func(p *policy) { p.What.Type = "A" }, api.ErrSyntax},
		"no Op of Who":           {func(p *policy) { p.Who.Op = api.BelowSlot + 1 }, api.ErrSyntax},
		"no Op of What":          {func(p *policy) { p.What.Op = math.MinInt }, api.ErrSyntax},
		"a long type":            {func(p *policy) { p.Act = scope{Op: api.Of, Type: longName + "N"} }, api.ErrSyntax},
		"5 conditions":           {func(p *policy) { p.Conds = make([]cond, 5) }, api.ErrFull},
		"many conditions":        {func(p *policy) { p.Conds = make([]cond, 1<<16) }, api.ErrFull},
		"an empty condition":     {func(p *policy) { p.Conds = make([]cond, 1) }, api.ErrSyntax},
		"201 nodes":              {func(p *policy) { p.Conds = []cond{{Expr: nots(200, variable("a"))}} }, api.ErrFull},
		"a slot in a condition":  {func(p *policy) { p.Conds = []cond{{Expr: variable("?principal")}} }, api.ErrSyntax},
		"another one in another": {func(p *policy) { p.Conds = []cond{p.Conds[0], {Expr: variable("?a")}} }, api.ErrSyntax},
	} {
		p := cloned(whole)
		c.make(&p)
		wantTold(t, "Check of "+what, pol.Check(p), c.want)
		got, err := link.Slots(p)
		wantTold(t, "Slots of "+what, err, c.want)
		if got != nil {
			t.Errorf("Slots of %s: got %s with an error", what, shown(got))
		}
		wantWrong(t, p, uidOf("A", "a"), uidOf("B", "b"), c.want)
		for _, f := range faults() {
			wantWrong(t, p, f.uid, uidOf("B", "b"), c.want)
			wantWrong(t, p, uidOf("A", "a"), f.uid, c.want)
		}
	}
}

// A policy that has neither an expression nor a text, for all its nodes, may be
// linked all the same.
func TestLinkOfGreatest(t *testing.T) {
	p := policy{Name: "p", Who: scope{Op: api.BelowSlot}, Conds: slices.Repeat([]cond{{Expr: nots(199, variable("a"))}}, api.MaxConds)}
	_, err := pol.Expr(p)
	wantTold(t, "Expr", err, api.ErrFull)
	_, err = pol.Write(p)
	wantTold(t, "Write", err, api.ErrFull)
	want := cloned(p)
	want.Who = scope{Op: api.Below, Uid: uidOf("A", "a")}
	if got, err := link.Link(p, uidOf("A", "a"), api.Uid{}); err != nil || !same(got, want) {
		t.Errorf("got %s and %v, want %s", shown(got), err, shown(want))
	}
}

// P2, P4: nothing is written into what is handed in, nor behind it, and what
// comes out is fresh.
func TestMemory(t *testing.T) {
	for _, who := range []scope{{Op: api.SameSlot}, {}} {
		memory := slices.Concat(nots(1, variable("a")), variable("b"), variable("c"))
		conds := []cond{{Expr: memory[:2]}, {Unless: true, Expr: memory[2:3]}, {Expr: memory[:2]}, {}}
		p := policy{Name: "p", Who: who, Conds: conds[:3]}
		before, all := slices.Clone(memory), cloned(policy{Conds: conds})
		one, err := link.Link(p, uidOf("A", "a"), api.Uid{})
		wantTold(t, "Link", err, api.OK)
		want := cloned(one)
		two, _ := link.Link(p, uidOf("A", "a"), api.Uid{})
		overwrite(one.Conds[0].Expr)
		if !slices.Equal(one.Conds[1].Expr, want.Conds[1].Expr) || !slices.Equal(one.Conds[2].Expr, want.Conds[2].Expr) {
			t.Errorf("lists of one answer share memory")
		}
		overwrite(one.Conds[1].Expr)
		overwrite(one.Conds[2].Expr)
		for i := range one.Conds[:cap(one.Conds)] {
			one.Conds[:cap(one.Conds)][i] = cond{Unless: true}
		}
		if !slices.Equal(memory, before) || !same(policy{Conds: conds}, all) {
			t.Errorf("it was written into %s", shown(conds))
		}
		if !same(two, want) {
			t.Errorf("two answers share memory: got %s, want %s", shown(two), shown(want))
		}
	}
}

// overwrite writes over all the memory that a list has.
func overwrite(list nodes) {
	for i := range list[:cap(list)] {
		list[:cap(list)][i] = api.Node{Op: api.Num, N: i}
	}
}

// P2: the slots of one answer are not those of another one.
func TestSlotsMemory(t *testing.T) {
	p := policy{Name: "p", Who: scope{Op: api.SameSlot}, What: scope{Op: api.SameSlot}}
	one, _ := link.Slots(p)
	for i := range one[:cap(one)] {
		one[:cap(one)][i] = "?other"
	}
	if two, err := link.Slots(p); err != nil || !slices.Equal(two, []string{"?principal", "?resource"}) {
		t.Errorf("got %s and %v", shown(two), err)
	}
}
