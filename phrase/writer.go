package phrase

import (
	"slices"
	"strconv"
	"strings"

	"wicketgate/api"
	"wicketgate/name"
)

// writer goes through the nodes of an expression, from the first one on: a
// node's parts stand behind it in the order in which a line has them.
type writer struct {
	e  []api.Node
	at int
	ts []api.Token
}

// add writes a word.
func (w *writer) add(kind int, s string) {
	w.ts = append(w.ts, api.Token{Kind: kind, S: s})
}

// say writes words that are names or signs: no sign is a name.
func (w *writer) say(ss ...string) {
	for _, s := range ss {
		if name.Check(s) == nil {
			w.add(api.Name, s)
		} else {
			w.add(api.Sign, s)
		}
	}
}

// take tells the next node, and goes on behind it.
func (w *writer) take() api.Node {
	n := w.e[w.at]
	w.at++
	return n
}

// part writes the next expression where such a form may stand, between ( and )
// if its own one is looser.
func (w *writer) part(form int) {
	if formOf(w.e[w.at].Op) >= form {
		w.bare()
		return
	}
	w.say("(")
	w.bare()
	w.say(")")
}

// formOf tells of which form a line of such a node is.
func formOf(op int) int {
	switch op {
	case api.If:
		return whole
	case api.Or:
		return either
	case api.And:
		return both
	case api.Eq, api.Lt, api.Le, api.In, api.Has, api.Is, api.Like:
		return rel
	case api.Add, api.Sub:
		return sum
	case api.Mul:
		return prod
	case api.Not, api.Neg:
		return sign
	case api.Get, api.One, api.All, api.Any:
		return post
	}
	return atom
}

// bare writes the next expression, with nothing about it.
func (w *writer) bare() {
	switch n := w.take(); formOf(n.Op) {
	case whole:
		w.say("if")
		w.part(whole)
		w.say("then")
		w.part(whole)
		w.say("else")
		w.part(whole)
	case either:
		w.between(either, "||", both)
	case both:
		w.between(both, "&&", rel)
	case rel:
		w.rel(n)
	case sum:
		w.sum(n)
	case prod:
		w.between(prod, "*", sign)
	case sign:
		w.sign(n)
	case post:
		w.post(n)
	default:
		w.atom(n)
	}
}

// between writes two parts, each where such a form may stand, with a word
// between them.
func (w *writer) between(first int, s string, second int) {
	w.part(first)
	w.say(s)
	w.part(second)
}

func (w *writer) rel(n api.Node) {
	switch n.Op {
	case api.Eq:
		w.between(sum, "==", sum)
	case api.Lt:
		w.between(sum, "<", sum)
	case api.Le:
		w.between(sum, "<=", sum)
	case api.In:
		w.between(sum, "in", sum)
	case api.Has:
		w.part(sum)
		w.say("has", n.S)
	case api.Is:
		w.part(sum)
		w.say("is", n.S)
	case api.Like:
		w.part(sum)
		w.say("like")
		w.add(api.Quoted, n.S)
	}
}

func (w *writer) sum(n api.Node) {
	if n.Op == api.Add {
		w.between(sum, "+", prod)
	} else {
		w.between(sum, "-", prod)
	}
}

func (w *writer) sign(n api.Node) {
	if n.Op == api.Not {
		w.say("!")
		w.part(sign)
		return
	}
	w.say("-")
	from := len(w.ts)
	w.part(sign)
	// With a number right behind it, the - would be read as that number's own.
	if w.ts[from].Kind == api.Number {
		w.ts = slices.Insert(w.ts, from, api.Token{Kind: api.Sign, S: "("})
		w.say(")")
	}
}

func (w *writer) post(n api.Node) {
	w.part(post)
	switch n.Op {
	case api.Get:
		w.say(".", n.S)
		return
	case api.One:
		w.say(".", "contains", "(")
	case api.All:
		w.say(".", "containsAll", "(")
	case api.Any:
		w.say(".", "containsAny", "(")
	}
	w.part(whole)
	w.say(")")
}

func (w *writer) atom(n api.Node) {
	switch n.Op {
	case api.Bool:
		w.say(strconv.FormatBool(n.N == 1))
	case api.Num:
		w.number(n.N)
	case api.Text:
		w.add(api.Quoted, n.S)
	case api.Ent:
		w.say(n.S, "::")
		w.add(api.Quoted, n.T)
	case api.Var:
		w.named(n.S)
	case api.Set:
		w.list("[", n.N, w.item, "]")
	case api.Rec:
		w.list("{", n.N, w.field, "}")
	}
}

// number takes the sign off the digits, not off the number: the least one has
// no opposite.
func (w *writer) number(n int) {
	digits, less := strings.CutPrefix(strconv.Itoa(n), "-")
	if less {
		w.say("-")
	}
	w.add(api.Number, digits)
}

func (w *writer) named(s string) {
	if slot, found := strings.CutPrefix(s, "?"); found {
		w.add(api.Slot, slot)
	} else {
		w.add(api.Name, s)
	}
}

// list writes so many parts with , between them, and what is about them.
func (w *writer) list(opening string, count int, part func(), closing string) {
	w.say(opening)
	for i := range count {
		if i > 0 {
			w.say(",")
		}
		part()
	}
	w.say(closing)
}

func (w *writer) item() {
	w.part(whole)
}

func (w *writer) field() {
	w.say(w.take().S, ":")
	w.part(whole)
}
