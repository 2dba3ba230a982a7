package pol

import (
	"wicketgate/api"
	"wicketgate/phrase"
)

// reader goes through words, from the first one on. It does not judge: of words
// of which there is no policy it tells something all the same, of which Write
// tells other words, or none.
type reader struct {
	ts []api.Token
	at int
}

// ahead tells the next word. Behind the last one there is one of no kind.
func (r *reader) ahead() api.Token {
	if r.at < len(r.ts) {
		return r.ts[r.at]
	}
	return api.Token{}
}

// take takes a word, and tells it.
func (r *reader) take() api.Token {
	t := r.ahead()
	if r.at < len(r.ts) {
		r.at++
	}
	return t
}

// passes takes the next word if it is s, and tells if it was.
func (r *reader) passes(s string) bool {
	if r.ahead().S != s {
		return false
	}
	r.take()
	return true
}

// policy takes all words.
func (r *reader) policy() api.Policy {
	p := api.Policy{Name: r.take().S}
	r.passes(":")
	p.Forbid = r.take().S == "forbid"
	r.passes("(")
	p.Who = r.scope()
	r.passes(",")
	p.Act = r.scope()
	r.passes(",")
	p.What = r.scope()
	r.passes(")")
	for r.at < len(r.ts) {
		p.Conds = append(p.Conds, r.cond())
	}
	return p
}

// scope takes the name of a side, and what is behind it.
func (r *reader) scope() api.Scope {
	r.take()
	switch {
	case r.passes("=="):
		return r.uidOrSlot(api.Same, api.SameSlot)
	case r.passes("in"):
		return r.uidOrSlot(api.Below, api.BelowSlot)
	case r.passes("is"):
		of := r.take().S
		if r.passes("in") {
			return api.Scope{Op: api.OfBelow, Type: of, Uid: r.uid()}
		}
		return api.Scope{Op: api.Of, Type: of}
	}
	return api.Scope{Op: api.Everywhere}
}

// uidOrSlot takes what a scope is held against: it tells one of the first Op
// where that is a uid, of the second one where it is a slot.
func (r *reader) uidOrSlot(ofUid, ofSlot int) api.Scope {
	if r.ahead().Kind == api.Slot {
		r.take()
		return api.Scope{Op: ofSlot}
	}
	return api.Scope{Op: ofUid, Uid: r.uid()}
}

func (r *reader) uid() api.Uid {
	u := api.Uid{Type: r.take().S}
	r.passes("::")
	u.Id = r.take().S
	return u
}

// cond takes a condition. What its words say is nothing where they say no
// expression, and nothing is none that Write would write.
func (r *reader) cond() api.Cond {
	c := api.Cond{Unless: r.take().S == "unless"}
	r.passes("{")
	c.Expr, _, _ = phrase.Parse(r.inside())
	return c
}

// inside takes the words up to the } of a condition, and that one too, and
// tells those ahead of it: a record has braces of its own.
func (r *reader) inside() []api.Token {
	var ts []api.Token
	open := 1
	for r.at < len(r.ts) {
		t := r.take()
		if t.Kind == api.Sign {
			open += braceOf(t.S)
		}
		if open == 0 {
			break
		}
		ts = append(ts, t)
	}
	return ts
}

// braceOf tells by how much more is open behind a sign.
func braceOf(s string) int {
	switch s {
	case "{":
		return 1
	case "}":
		return -1
	}
	return 0
}
