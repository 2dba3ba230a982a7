package pol

import (
	"wicketgate/api"
	"wicketgate/phrase"
)

// writer gathers the words of a policy.
type writer struct{ ts []api.Token }

// add writes a word.
func (w *writer) add(kind int, s string) {
	w.ts = append(w.ts, api.Token{Kind: kind, S: s})
}

// head writes all that is ahead of the conditions.
func (w *writer) head(p api.Policy) {
	w.add(api.Name, p.Name)
	w.add(api.Sign, ":")
	if p.Forbid {
		w.add(api.Name, "forbid")
	} else {
		w.add(api.Name, "permit")
	}
	w.add(api.Sign, "(")
	for i, s := range sidesOf(p) {
		if i > 0 {
			w.add(api.Sign, ",")
		}
		w.side(s)
	}
	w.add(api.Sign, ")")
}

func (w *writer) side(s side) {
	w.add(api.Name, s.name)
	switch s.Op {
	case api.Same:
		w.add(api.Sign, "==")
		w.uid(s.Uid)
	case api.Below:
		w.add(api.Name, "in")
		w.uid(s.Uid)
	case api.Of:
		w.add(api.Name, "is")
		w.add(api.Name, s.Type)
	case api.OfBelow:
		w.add(api.Name, "is")
		w.add(api.Name, s.Type)
		w.add(api.Name, "in")
		w.uid(s.Uid)
	case api.SameSlot:
		w.add(api.Sign, "==")
		w.add(api.Slot, s.name)
	case api.BelowSlot:
		w.add(api.Name, "in")
		w.add(api.Slot, s.name)
	}
}

func (w *writer) uid(u api.Uid) {
	w.add(api.Name, u.Type)
	w.add(api.Sign, "::")
	w.add(api.Quoted, u.Id)
}

// cond writes a condition, or tells ErrFull where it has too many words.
func (w *writer) cond(c api.Cond) error {
	ts, err := phrase.Print(c.Expr)
	if err != nil {
		return err
	}
	if c.Unless {
		w.add(api.Name, "unless")
	} else {
		w.add(api.Name, "when")
	}
	w.add(api.Sign, "{")
	w.ts = append(w.ts, ts...)
	w.add(api.Sign, "}")
	return nil
}
