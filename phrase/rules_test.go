package phrase_test

import (
	"fmt"
	"slices"
	"strings"

	"wicketgate/api"
)

// Here stand the chapter's forms as rules, by another hand than the program's:
// the tests read lines by them in all ways at once, and make all lines of them.

// piece is what a symbol of a rule stands for: some words, what they say, and,
// of a list, how many there are.
type piece struct {
	ts    []api.Token
	e     []api.Node
	count int
}

// rule tells of which symbols a form may be, and what it says then.
type rule struct {
	left  string
	right []string
	says  func(ps []piece) piece
}

// symbols of a rule that are no forms are words: those of kinds, or one that
// stands for itself.
var kinds = map[string]int{"Name": api.Name, "Free": api.Name, "Number": api.Number, "Quoted": api.Quoted, "Slot": api.Slot}

// language has the words that cannot stand for something else.
var language = strings.Fields("if then else true false in has like is")

// fits tells if a word is what a symbol that is no form stands for.
func fits(symbol string, t api.Token) bool {
	if symbol == "Free" {
		return t.Kind == api.Name && !slices.Contains(language, t.S)
	}
	if kind := kinds[symbol]; kind != 0 {
		return t.Kind == kind
	}
	return (t.Kind == api.Name || t.Kind == api.Sign) && t.S == symbol
}

// node says a node with all that its pieces say behind it, its S and T the
// texts of those of its words that have one.
func node(op int) func(ps []piece) piece {
	return func(ps []piece) piece {
		n := api.Node{Op: op}
		var parts []api.Node
		for _, p := range ps {
			parts = append(parts, p.e...)
		}
		switch last := ps[len(ps)-1].ts; op {
		case api.Bool:
			n.N = map[string]int{"true": 1}[last[0].S]
		case api.Text, api.Has, api.Is, api.Like, api.Get:
			n.S = last[0].S
		case api.Ent:
			n.S, n.T = ps[0].ts[0].S, last[0].S
		case api.Var:
			n.S = map[int]string{api.Slot: "?"}[last[0].Kind] + last[0].S
		case api.Num:
			for _, p := range ps {
				n.S += p.ts[0].S
			}
			fmt.Sscan(n.S, &n.N)
			n.S = ""
		case api.Set, api.Rec:
			n.N = ps[len(ps)-2].count
		}
		return piece{e: append([]api.Node{n}, parts...)}
	}
}

// it says what the only one of the pieces that says something says.
func it(ps []piece) piece {
	for _, p := range ps {
		if p.e != nil {
			return piece{e: p.e}
		}
	}
	return piece{}
}

// list says what all its pieces say, one behind the other.
func list(ps []piece) piece {
	var l piece
	for _, p := range ps {
		l.e = append(l.e, p.e...)
		l.count += p.count
	}
	l.count++
	return l
}

// rulesOf has all forms, with these names in { }; where some of them may be
// behind another one, and the last one there may be is not.
func rulesOf(names []string) []rule {
	var rules []rule
	add := func(left, right string, says func(ps []piece) piece) {
		rules = append(rules, rule{left, strings.Fields(right), says})
	}
	add("whole", "if whole then whole else whole", node(api.If))
	add("whole", "either", it)
	add("either", "both", it)
	add("either", "either || both", node(api.Or))
	add("both", "rel", it)
	add("both", "both && rel", node(api.And))
	add("rel", "sum", it)
	add("rel", "sum == sum", node(api.Eq))
	add("rel", "sum < sum", node(api.Lt))
	add("rel", "sum <= sum", node(api.Le))
	add("rel", "sum in sum", node(api.In))
	add("rel", "sum has Name", node(api.Has))
	add("rel", "sum is Name", node(api.Is))
	add("rel", "sum like Quoted", node(api.Like))
	add("sum", "prod", it)
	add("sum", "sum + prod", node(api.Add))
	add("sum", "sum - prod", node(api.Sub))
	add("prod", "sign", it)
	add("prod", "prod * sign", node(api.Mul))
	// Each of these twice: the second time without a Number at its beginning.
	for _, x := range []string{"", "~"} {
		add("sign"+x, "! sign", node(api.Not))
		add("sign"+x, "- sign~", node(api.Neg))
		add("sign"+x, "post"+x, it)
		add("post"+x, "atom"+x, it)
		add("post"+x, "post"+x+" . Name", node(api.Get))
		add("post"+x, "post"+x+" . contains ( whole )", node(api.One))
		add("post"+x, "post"+x+" . containsAll ( whole )", node(api.All))
		add("post"+x, "post"+x+" . containsAny ( whole )", node(api.Any))
		add("atom"+x, "true", node(api.Bool))
		add("atom"+x, "false", node(api.Bool))
		add("atom"+x, "- Number", node(api.Num))
		add("atom"+x, "Quoted", node(api.Text))
		add("atom"+x, "Name :: Quoted", node(api.Ent))
		add("atom"+x, "Free", node(api.Var))
		add("atom"+x, "Slot", node(api.Var))
		add("atom"+x, "( whole )", it)
		add("atom"+x, "[ ]", node(api.Set))
		add("atom"+x, "[ wholes ]", node(api.Set))
		add("atom"+x, "{ }", node(api.Rec))
		add("atom"+x, "{ fields> }", node(api.Rec))
	}
	add("atom", "Number", node(api.Num))
	add("wholes", "whole", list)
	add("wholes", "whole , wholes", list)
	for _, ahead := range append([]string{""}, names...) {
		for _, s := range names {
			if s <= ahead {
				continue
			}
			field := func(ps []piece) piece {
				l := list(ps)
				l.e = slices.Insert(l.e, 0, api.Node{Op: api.Field, S: s})
				return l
			}
			add("fields>"+ahead, s+" : whole", field)
			if s != slices.Max(names) {
				add("fields>"+ahead, s+" : whole , fields>"+s, field)
			}
		}
	}
	return rules
}

// grammar is rules by the forms that they are of.
type grammar map[string][]rule

func grammarOf(names ...string) grammar {
	g := grammar{}
	for _, r := range rulesOf(names) {
		g[r.left] = append(g[r.left], r)
	}
	return g
}

// made has all pieces of so many words that a symbol may stand for, with the
// words taken from vocabulary; known is what was made before.
func (g grammar) made(symbol string, size int, vocabulary []api.Token, known map[string][]piece) []piece {
	key := fmt.Sprint(symbol, " ", size)
	if ps, found := known[key]; found {
		return ps
	}
	var ps []piece
	if g[symbol] == nil && size == 1 {
		for _, t := range vocabulary {
			if fits(symbol, t) {
				ps = append(ps, piece{ts: []api.Token{t}})
			}
		}
	}
	for _, r := range g[symbol] {
		g.rows(r.right, size, vocabulary, known, nil, func(row []piece) {
			p := r.says(row)
			for _, q := range row {
				p.ts = append(p.ts, q.ts...)
			}
			ps = append(ps, p)
		})
	}
	known[key] = ps
	return ps
}

// rows tells each row of pieces, of so many words in all, that symbols stand
// for one by one, behind those that the row has already.
func (g grammar) rows(symbols []string, size int, vocabulary []api.Token, known map[string][]piece, row []piece, tell func(row []piece)) {
	if len(symbols) == 1 {
		for _, p := range g.made(symbols[0], size, vocabulary, known) {
			tell(append(slices.Clip(row), p))
		}
		return
	}
	for first := 1; first <= size-len(symbols)+1; first++ {
		for _, p := range g.made(symbols[0], first, vocabulary, known) {
			g.rows(symbols[1:], size-first, vocabulary, known, append(slices.Clip(row), p), tell)
		}
	}
}

// item is a rule of which some symbols have been read, from a word on.
type item struct {
	left      string
	which, at int
	from      int
}

// reading has, for each number of words that have been read, all items there
// may be then.
type reading struct {
	g    grammar
	sets [][]item
}

func (g grammar) begin() *reading {
	rd := &reading{g: g}
	rd.sets = [][]item{rd.closed(nil, "whole")}
	return rd
}

// symbol is the one that an item waits for, and none where it is done.
func (rd *reading) symbol(i item) string {
	if right := rd.g[i.left][i.which].right; i.at < len(right) {
		return right[i.at]
	}
	return ""
}

// closed has all items that follow from some at the place behind all sets.
func (rd *reading) closed(items []item, forms ...string) []item {
	known := map[item]bool{}
	for _, i := range items {
		known[i] = true
	}
	add := func(i item) {
		if !known[i] {
			known[i] = true
			items = append(items, i)
		}
	}
	expect := func(form string) {
		for which := range rd.g[form] {
			add(item{form, which, 0, len(rd.sets)})
		}
	}
	for _, form := range forms {
		expect(form)
	}
	for n := 0; n < len(items); n++ {
		if waits := rd.symbol(items[n]); waits != "" {
			expect(waits)
			continue
		}
		// No form is of no words, so what waited for this one is in a set.
		for _, i := range rd.sets[items[n].from] {
			if rd.symbol(i) == items[n].left {
				i.at++
				add(i)
			}
		}
	}
	return items
}

// behind has the items behind one more word, and none where no line begins so.
func (rd *reading) behind(t api.Token) []item {
	var items []item
	for _, i := range rd.sets[len(rd.sets)-1] {
		if waits := rd.symbol(i); waits != "" && rd.g[waits] == nil && fits(waits, t) {
			i.at++
			items = append(items, i)
		}
	}
	return items
}

// push reads one more word, behind which there are these items; pop takes the
// last one back.
func (rd *reading) push(items []item) {
	rd.sets = append(rd.sets, rd.closed(slices.Clone(items)))
}

func (rd *reading) pop() {
	rd.sets = rd.sets[:len(rd.sets)-1]
}

// done tells if what has been read, with one more word, is a line: items are
// those behind that word.
func (rd *reading) done(items []item) bool {
	return slices.ContainsFunc(rd.closed(slices.Clone(items)), func(i item) bool {
		return i.left == "whole" && i.from == 0 && rd.symbol(i) == ""
	})
}

// guarded tells if the number that has been read last has its own - ahead.
func guarded(items []item) bool {
	return slices.ContainsFunc(items, func(i item) bool { return i.at == 2 })
}
