package phrase

import (
	"slices"
	"strconv"

	"wicketgate/api"
	"wicketgate/tree"
)

// reader goes through words, from the first one on. It has a method for each
// form, which takes the words of that form and tells what they are. A word is
// taken only where a line may begin with all words up to it, so that at is the
// first one that cannot be where something is wrong.
type reader struct {
	ts []api.Token
	at int
}

// fault is what is thrown where the words cannot go on.
type fault struct{ err error }

// need throws what is wrong, unless all is well.
func need(well bool, wrong error) {
	if !well {
		panic(fault{wrong})
	}
}

// readLine tells the expression of all words, or what is wrong at an index. It
// is thrown from deep within the forms, and caught here, ahead of them all.
func readLine(ts []api.Token) (e []api.Node, at int, err error) {
	r := &reader{ts: ts}
	defer func() {
		switch wrong := recover().(type) {
		case nil:
		case fault:
			e, at, err = nil, r.at, wrong.err
		default:
			// Nobody here throws it: to catch it would hide a mistake.
			panic(wrong)
		}
	}()
	e = r.whole()
	need(r.at == len(r.ts), api.ErrSyntax)
	return e, 0, nil
}

// ahead tells the word so many behind the next one. Behind the last one there
// is one of no kind, which no form has.
func (r *reader) ahead(i int) api.Token {
	if r.at+i < len(r.ts) {
		return r.ts[r.at+i]
	}
	return api.Token{}
}

// itself tells what a word stands for by itself, and nothing of one that does
// not.
func itself(t api.Token) string {
	if t.Kind == api.Name || t.Kind == api.Sign {
		return t.S
	}
	return ""
}

// says tells if the next word is s.
func (r *reader) says(s string) bool {
	return itself(r.ahead(0)) == s
}

// passes takes the next word if it is s, and tells if it was.
func (r *reader) passes(s string) bool {
	if !r.says(s) {
		return false
	}
	r.at++
	return true
}

// pass takes s, which must be the next word.
func (r *reader) pass(s string) {
	need(r.passes(s), api.ErrSyntax)
}

// take takes a word, which must be of that kind, and tells its text.
func (r *reader) take(kind int) string {
	t := r.ahead(0)
	need(t.Kind == kind, api.ErrSyntax)
	r.at++
	return t.S
}

// join tells a node with its parts behind it.
func join(n api.Node, parts ...[]api.Node) []api.Node {
	return append([]api.Node{n}, slices.Concat(parts...)...)
}

func (r *reader) whole() []api.Node {
	// Ahead of :: it is the type of an entity.
	if !r.says("if") || itself(r.ahead(1)) == "::" {
		return r.either()
	}
	r.pass("if")
	asked := r.whole()
	r.pass("then")
	yes := r.whole()
	r.pass("else")
	no := r.whole()
	return join(api.Node{Op: api.If}, asked, yes, no)
}

func (r *reader) either() []api.Node {
	return r.row(r.both, map[string]int{"||": api.Or})
}

func (r *reader) both() []api.Node {
	return r.row(r.rel, map[string]int{"&&": api.And})
}

func (r *reader) sum() []api.Node {
	return r.row(r.prod, map[string]int{"+": api.Add, "-": api.Sub})
}

func (r *reader) prod() []api.Node {
	return r.row(r.sign, map[string]int{"*": api.Mul})
}

// row takes parts of one form, with any of these words between each two. All
// that is ahead of such a word is its first part.
func (r *reader) row(part func() []api.Node, ops map[string]int) []api.Node {
	e := part()
	for {
		op, found := ops[itself(r.ahead(0))]
		if !found {
			return e
		}
		r.at++
		e = join(api.Node{Op: op}, e, part())
	}
}

func (r *reader) rel() []api.Node {
	e := r.sum()
	ops := map[string]int{
		"==": api.Eq, "<": api.Lt, "<=": api.Le, "in": api.In,
		"has": api.Has, "is": api.Is, "like": api.Like,
	}
	op, found := ops[itself(r.ahead(0))]
	if !found {
		return e
	}
	r.at++
	switch op {
	case api.Has, api.Is:
		return join(api.Node{Op: op, S: r.take(api.Name)}, e)
	case api.Like:
		return join(api.Node{Op: op, S: r.take(api.Quoted)}, e)
	}
	return join(api.Node{Op: op}, e, r.sum())
}

func (r *reader) sign() []api.Node {
	switch {
	case r.passes("!"):
		return join(api.Node{Op: api.Not}, r.sign())
	case r.says("-") && r.ahead(1).Kind != api.Number:
		r.pass("-")
		return join(api.Node{Op: api.Neg}, r.sign())
	}
	return r.post()
}

func (r *reader) post() []api.Node {
	e := r.atom()
	ops := map[string]int{"contains": api.One, "containsAll": api.All, "containsAny": api.Any}
	for r.passes(".") {
		s := r.take(api.Name)
		op, found := ops[s]
		if found && r.passes("(") {
			e = join(api.Node{Op: op}, e, r.whole())
			r.pass(")")
		} else {
			e = join(api.Node{Op: api.Get, S: s}, e)
		}
	}
	return e
}

func (r *reader) atom() []api.Node {
	switch t := r.ahead(0); t.Kind {
	case api.Name:
		return r.named()
	case api.Number:
		return r.number("")
	case api.Quoted:
		return join(api.Node{Op: api.Text, S: r.take(api.Quoted)})
	case api.Slot:
		return join(api.Node{Op: api.Var, S: "?" + r.take(api.Slot)})
	}
	switch {
	case r.passes("-"):
		return r.number("-")
	case r.passes("["):
		parts := r.list(r.whole, "]")
		return join(api.Node{Op: api.Set, N: len(parts)}, parts...)
	case r.passes("{"):
		return r.record()
	}
	r.pass("(")
	e := r.whole()
	r.pass(")")
	return e
}

// named tells what begins with a name. Each name may be the type of an entity,
// so that one which may be nothing else is wrong at the word behind it.
func (r *reader) named() []api.Node {
	s := r.take(api.Name)
	if r.passes("::") {
		return join(api.Node{Op: api.Ent, S: s, T: r.take(api.Quoted)})
	}
	switch s {
	case "false":
		return join(api.Node{Op: api.Bool, N: 0})
	case "true":
		return join(api.Node{Op: api.Bool, N: 1})
	}
	e := join(api.Node{Op: api.Var, S: s})
	need(tree.Check(e) == nil, api.ErrSyntax)
	return e
}

// number tells the number with what leads it. Where it is too great, at is still
// its own place, not the one behind it.
func (r *reader) number(lead string) []api.Node {
	t := r.ahead(0)
	need(t.Kind == api.Number, api.ErrSyntax)
	n, err := strconv.Atoi(lead + t.S)
	need(err == nil, api.ErrOver)
	r.at++
	return join(api.Node{Op: api.Num, N: n})
}

// list takes parts of a form with , between them, or none, and what closes
// them.
func (r *reader) list(part func() []api.Node, closing string) [][]api.Node {
	var parts [][]api.Node
	for !r.passes(closing) {
		if len(parts) > 0 {
			r.pass(",")
		}
		parts = append(parts, part())
	}
	return parts
}

// lastName is behind all other names: none has a greater byte, or more of them.
const lastName = "zzzzzzzzzzzzzzzzzzzz"

// record tells what stands between { and }.
func (r *reader) record() []api.Node {
	// No name is empty, so the first one is behind the empty text too.
	last := ""
	field := func() []api.Node {
		need(r.ahead(0).S > last, api.ErrSyntax)
		last = r.take(api.Name)
		r.pass(":")
		e := join(api.Node{Op: api.Field, S: last}, r.whole())
		// A , ahead of which is the last name there may be cannot go on.
		need(last != lastName || r.says("}"), api.ErrSyntax)
		return e
	}
	parts := r.list(field, "}")
	return join(api.Node{Op: api.Rec, N: len(parts)}, parts...)
}
