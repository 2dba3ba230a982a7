package phrase_test

import (
	"fmt"
	"math"
	"math/rand/v2"
	"slices"
	"strings"
	"testing"

	"wicketgate/api"
	"wicketgate/phrase"
	"wicketgate/plain"
	"wicketgate/tree"
	"wicketgate/word"
)

// Short forms of words, all of them at byte 0.

func nam(s string) api.Token    { return api.Token{Kind: api.Name, S: s} }
func num(s string) api.Token    { return api.Token{Kind: api.Number, S: s} }
func quoted(s string) api.Token { return api.Token{Kind: api.Quoted, S: s} }
func slot(s string) api.Token   { return api.Token{Kind: api.Slot, S: s} }
func sign(s string) api.Token   { return api.Token{Kind: api.Sign, S: s} }

// words are those of a line, without the bytes at which they begin.
func words(line string) []api.Token {
	ts, _, err := word.Read(line)
	if err != nil {
		panic(line)
	}
	for i := range ts {
		ts[i].At = 0
	}
	return ts
}

// Short forms of expressions.

func leaf(n api.Node) []api.Node      { return []api.Node{n} }
func one(n int) []api.Node            { return leaf(api.Node{Op: api.Num, N: n}) }
func text(s string) []api.Node        { return leaf(api.Node{Op: api.Text, S: s}) }
func ent(s, id string) []api.Node     { return leaf(api.Node{Op: api.Ent, S: s, T: id}) }
func variable(s string) []api.Node    { return leaf(api.Node{Op: api.Var, S: s}) }
func truth(n int) []api.Node          { return leaf(api.Node{Op: api.Bool, N: n}) }
func set(es ...[]api.Node) []api.Node { return all(api.Node{Op: api.Set, N: len(es)}, es...) }
func rec(es ...[]api.Node) []api.Node { return all(api.Node{Op: api.Rec, N: len(es)}, es...) }

func all(n api.Node, es ...[]api.Node) []api.Node {
	return append(leaf(n), slices.Concat(es...)...)
}

func of(op int, es ...[]api.Node) []api.Node {
	return all(api.Node{Op: op}, es...)
}

func with(op int, s string, e []api.Node) []api.Node {
	return all(api.Node{Op: op, S: s}, e)
}

// shown has no more of a thing than a message can bear.
func shown(x any) string {
	s := fmt.Sprintf("%+q", fmt.Sprint(x))
	if len(s) > 300 {
		s = s[:300] + "..."
	}
	return s
}

// wantParse fails unless Parse tells that expression, or that error at that
// index.
func wantParse(t *testing.T, ts []api.Token, want []api.Node, index int, wrong api.Errno) {
	t.Helper()
	got, at, err := phrase.Parse(ts)
	if !slices.Equal(got, want) || at != index || plain.Told(err) != wrong {
		t.Errorf("Parse(%s): got %s, %d and %v, want %s, %d and %v",
			shown(ts), shown(got), at, err, shown(want), index, wrong)
	}
	if err != nil && got != nil {
		t.Errorf("Parse(%s): a list beside the error %v", shown(ts), err)
	}
}

// wantLine fails unless a line is that expression.
func wantLine(t *testing.T, line string, want []api.Node) {
	t.Helper()
	wantParse(t, words(line), want, 0, api.OK)
}

// wantStop fails unless a line cannot go on at that index.
func wantStop(t *testing.T, line string, index int) {
	t.Helper()
	wantParse(t, words(line), nil, index, api.ErrSyntax)
}

// wantPrint fails unless Print tells those words, or that error.
func wantPrint(t *testing.T, e []api.Node, want []api.Token, wrong api.Errno) {
	t.Helper()
	got, err := phrase.Print(e)
	if !slices.Equal(got, want) || plain.Told(err) != wrong {
		t.Errorf("Print(%s): got %s and %v, want %s and %v",
			shown(e), shown(got), err, shown(want), wrong)
	}
	if err != nil && got != nil {
		t.Errorf("Print(%s): a list beside the error %v", shown(e), err)
	}
}

// last is the name behind which there is none.
var last = strings.Repeat("z", api.MaxName)

var signs = strings.Fields("( ) [ ] { } , : . :: == < <= && || ! + - *")

// vocabulary has a word of each sort that the chapter tells apart.
func vocabulary() []api.Token {
	var ts []api.Token
	for _, s := range append(strings.Fields("a b contains containsAll containsAny "+last), language...) {
		ts = append(ts, nam(s))
	}
	for _, s := range signs {
		ts = append(ts, sign(s))
	}
	for _, s := range strings.Fields("0 5 9223372036854775807 9223372036854775808 9999999999999999999") {
		ts = append(ts, num(s))
	}
	for _, s := range []string{"", "if", "("} {
		ts = append(ts, quoted(s))
	}
	return append(ts, slot("a"), slot("if"))
}

// forms are those of all words in vocabulary, and of a name behind most.
func forms() grammar {
	names := []string{"y"}
	for _, t := range vocabulary() {
		if t.Kind == api.Name {
			names = append(names, t.S)
		}
	}
	return grammarOf(names...)
}

// walker holds Parse against the forms, read in all ways at once.
type walker struct {
	t  *testing.T
	rd *reading
	ts []api.Token
}

// step fails unless Parse tells what is right of what has been read and one
// more word. It tells the items behind that word, and none where nothing is to
// be read behind it.
func (w *walker) step(next api.Token) []item {
	ts := append(slices.Clip(w.ts), next)
	got, at, err := phrase.Parse(ts)
	items := w.rd.behind(next)
	index, wrong := 0, api.OK
	switch over := next.Kind == api.Number && len(next.S) == 19 && next.S > "9223372036854775807"; {
	case len(items) == 0:
		index, wrong = len(w.ts), api.ErrSyntax
	case over && !(guarded(items) && next.S == "9223372036854775808"):
		index, wrong, items = len(w.ts), api.ErrOver, nil
	case !w.rd.done(items):
		index, wrong = len(ts), api.ErrSyntax
	}
	if at != index || plain.Told(err) != wrong || (err == nil) != (got != nil) {
		w.t.Fatalf("Parse(%v): got %v, %d and %v, want %d and %v", ts, got, at, err, index, wrong)
	}
	// What stands behind a place that cannot go on is no matter.
	if len(items) == 0 {
		wantParse(w.t, append(ts, w.ts...), nil, index, wrong)
	}
	return items
}

// walk goes on with each of these words, as far as it is told.
func (w *walker) walk(vocabulary []api.Token, size int) {
	for _, next := range vocabulary {
		items := w.step(next)
		if len(items) == 0 || size == 1 {
			continue
		}
		w.rd.push(items)
		w.ts = append(w.ts, next)
		w.walk(vocabulary, size-1)
		w.ts = w.ts[:len(w.ts)-1]
		w.rd.pop()
	}
}

// PH1, PH2, PH3: what is a line, and where what is none cannot go on, of all
// rows of a few words.
func TestParseOfAllShortRows(t *testing.T) {
	w := walker{t: t, rd: forms().begin()}
	wantParse(t, nil, nil, 0, api.ErrSyntax)
	w.walk(vocabulary(), 3)
	few := append(words(`a if then :: "" 5 - . contains in has`), sign("("), sign(")"))
	w.walk(few, 6)
	for _, lead := range []string{"if a then a else", "{ b : a", "a . contains (", "[ a ,", "a in a +", "! -", "- 5 .", "{ " + last + " : a"} {
		w := walker{t: t, rd: forms().begin()}
		for _, next := range words(lead) {
			items := w.step(next)
			w.rd.push(items)
			w.ts = append(w.ts, next)
		}
		w.walk(vocabulary(), 2)
	}
}

// PH1, PH2, PH3: the same of long rows, each word behind each beginning.
func TestParseOfLongRows(t *testing.T) {
	rng := rand.New(rand.NewPCG(9, 27))
	ts := vocabulary()
	g := forms()
	for range 60 {
		w := walker{t: t, rd: g.begin()}
		for len(w.ts) < 40 {
			var steps []api.Token
			var behind [][]item
			for _, next := range ts {
				if items := w.step(next); len(items) > 0 {
					steps, behind = append(steps, next), append(behind, items)
				}
			}
			if len(steps) == 0 {
				break
			}
			i := rng.IntN(len(steps))
			w.rd.push(behind[i])
			w.ts = append(w.ts, steps[i])
		}
	}
}

// key is an expression or a row of words as something that maps can hold.
func key[T any](list []T) string {
	return fmt.Sprintf("%q", fmt.Sprint(list))
}

// PH1, PH2, PH4: all short lines of some words: what they are, and that what is
// printed of it is a line of it, and none of them is shorter.
func TestAllShortLines(t *testing.T) {
	for _, c := range []struct {
		line string
		size int
	}{
		{"if a then else || && == + - * ! ( ) 5", 7},
		{"- ! 5 a . contains ( )", 8},
		{`a in has is like "p" :: - <= < . true ?s ( )`, 6},
		{`a b : { } [ ] , 0 false containsAll containsAny . ( )`, 8},
		{"a - + * ( )", 10},
		{"a == && || ( )", 11},
	} {
		vocabulary, known := words(c.line), map[string][]piece{}
		g := grammarOf("a", "b", "c")
		shortest, lines := map[string]int{}, map[string]int{}
		for size := 1; size <= c.size; size++ {
			for _, p := range g.made("whole", size, vocabulary, known) {
				if lines[key(p.ts)]++; lines[key(p.ts)] > 1 {
					t.Fatalf("the forms tell two of %v", p.ts)
				}
				wantParse(t, p.ts, p.e, 0, api.OK)
				if _, found := shortest[key(p.e)]; !found {
					shortest[key(p.e)] = size
				}
				got, err := phrase.Print(p.e)
				if err != nil || len(got) != shortest[key(p.e)] {
					t.Errorf("Print(%v): got %v and %v, want %d words", p.e, got, err, shortest[key(p.e)])
				}
				wantParse(t, got, p.e, 0, api.OK)
				if t.Failed() {
					return
				}
			}
		}
	}
}

// PH1: each form, by its words.
func TestForms(t *testing.T) {
	a, b, c := variable("a"), variable("b"), variable("c")
	for _, x := range []struct {
		line string
		want []api.Node
	}{
		{"if a then b else c", of(api.If, a, b, c)},
		{"if a then if b then c else a else if c then b else a", of(api.If, a, of(api.If, b, c, a), of(api.If, c, b, a))},
		{"if if a then b else c then b else c", of(api.If, of(api.If, a, b, c), b, c)},
		{"if a then b else c || a", of(api.If, a, b, of(api.Or, c, a))},
		{"(if a then b else c) || a", of(api.Or, of(api.If, a, b, c), a)},
		{"a || b || c", of(api.Or, of(api.Or, a, b), c)},
		{"a || (b || c)", of(api.Or, a, of(api.Or, b, c))},
		{"a && b && c", of(api.And, of(api.And, a, b), c)},
		{"a && (b && c)", of(api.And, a, of(api.And, b, c))},
		{"a || b && c", of(api.Or, a, of(api.And, b, c))},
		{"a && b || c", of(api.Or, of(api.And, a, b), c)},
		{"(a || b) && c", of(api.And, of(api.Or, a, b), c)},
		{"a == b", of(api.Eq, a, b)}, {"a < b", of(api.Lt, a, b)},
		{"a <= b", of(api.Le, a, b)}, {"a in b", of(api.In, a, b)},
		{"(a == b) == c", of(api.Eq, of(api.Eq, a, b), c)},
		{"a == b && b < c", of(api.And, of(api.Eq, a, b), of(api.Lt, b, c))},
		{"a has b", with(api.Has, "b", a)}, {"a is b", with(api.Is, "b", a)},
		{`a like "b*"`, with(api.Like, "b*", a)}, {`a like ""`, with(api.Like, "", a)},
		{"a + b has c", with(api.Has, "c", of(api.Add, a, b))},
		{"a + b < b - c", of(api.Lt, of(api.Add, a, b), of(api.Sub, b, c))},
		{"a - b - c", of(api.Sub, of(api.Sub, a, b), c)},
		{"a - b + c", of(api.Add, of(api.Sub, a, b), c)},
		{"a - (b + c)", of(api.Sub, a, of(api.Add, b, c))},
		{"a + b * c", of(api.Add, a, of(api.Mul, b, c))},
		{"a * b * c", of(api.Mul, of(api.Mul, a, b), c)},
		{"a * (b * c)", of(api.Mul, a, of(api.Mul, b, c))},
		{"!a", of(api.Not, a)}, {"-a", of(api.Neg, a)}, {"!-!a", of(api.Not, of(api.Neg, of(api.Not, a)))},
		{"!a == b", of(api.Eq, of(api.Not, a), b)}, {"!(a == b)", of(api.Not, of(api.Eq, a, b))},
		{"-a * b", of(api.Mul, of(api.Neg, a), b)}, {"-(a * b)", of(api.Neg, of(api.Mul, a, b))},
		{"a * -b", of(api.Mul, a, of(api.Neg, b))}, {"a - -b", of(api.Sub, a, of(api.Neg, b))},
		{"!a.b", of(api.Not, with(api.Get, "b", a))}, {"(!a).b", with(api.Get, "b", of(api.Not, a))},
		{"a.b.c", with(api.Get, "c", with(api.Get, "b", a))},
		{"a.contains(b)", of(api.One, a, b)}, {"a.containsAll(b)", of(api.All, a, b)}, {"a.containsAny(b)", of(api.Any, a, b)},
		{"a.contains(b).c.containsAny(b)", of(api.Any, with(api.Get, "c", of(api.One, a, b)), b)},
		{"a.contains(if a then b else c)", of(api.One, a, of(api.If, a, b, c))},
		{"true", truth(1)}, {"false", truth(0)},
		{`"a b"`, text("a b")}, {`""`, text("")}, {`User::"a"`, ent("User", "a")},
		{"a", a}, {"?a", variable("?a")}, {"((a))", a},
		{"[]", set()}, {"[a]", set(a)}, {"[c, a, if a then b else c, a]", set(c, a, of(api.If, a, b, c), a)},
		{"{}", rec()}, {"{a: b}", rec(with(api.Field, "a", b))},
		{"{A: c, _: [], a: {}, a0: 1}", rec(with(api.Field, "A", c), with(api.Field, "_", set()), with(api.Field, "a", rec()), with(api.Field, "a0", one(1)))},
		{"{a: {b: 1, c: 2}, b: {a: 3}}", rec(with(api.Field, "a", rec(with(api.Field, "b", one(1)), with(api.Field, "c", one(2)))), with(api.Field, "b", rec(with(api.Field, "a", one(3)))))},
		{"[1, -2].contains(-2)", of(api.One, set(one(1), one(-2)), one(-2))},
		{`"a".b`, with(api.Get, "b", text("a"))}, {`{a: b}.a`, with(api.Get, "a", rec(with(api.Field, "a", b)))},
	} {
		wantLine(t, x.line, x.want)
	}
}

// PH2: where a name may be any, and where contains and its like are no names.
func TestNamesThatMayBeAny(t *testing.T) {
	a := variable("a")
	for _, s := range append(strings.Fields("contains containsAll containsAny principal"), language...) {
		wantLine(t, "a."+s, with(api.Get, s, a))
		wantLine(t, "a."+s+"."+s+" == a."+s, of(api.Eq, with(api.Get, s, with(api.Get, s, a)), with(api.Get, s, a)))
		wantLine(t, "a has "+s, with(api.Has, s, a))
		wantLine(t, "a is "+s, with(api.Is, s, a))
		wantLine(t, s+`::"x"`, ent(s, "x"))
		wantLine(t, "if "+s+`::"x" then `+s+`::"y" else `+s+`::"z"`, of(api.If, ent(s, "x"), ent(s, "y"), ent(s, "z")))
		wantLine(t, "a in "+s+`::"x"`, of(api.In, a, ent(s, "x")))
		wantLine(t, "{"+s+": a}", rec(with(api.Field, s, a)))
		wantLine(t, "?"+s, variable("?"+s))
		wantLine(t, `"`+s+`"`, text(s))
	}
	for _, s := range []string{"contains", "containsAll", "containsAny", "if_", "If", "True", "permit"} {
		wantLine(t, s, variable(s))
		wantLine(t, s+" in "+s, of(api.In, variable(s), variable(s)))
	}
	wantLine(t, "contains.contains(contains)", of(api.One, variable("contains"), variable("contains")))
	wantStop(t, "a.b(a)", 3)
	wantStop(t, "a has contains(a)", 3)
	wantStop(t, "contains(a)", 1)
	wantStop(t, "a.Contains(a)", 3)
	wantParse(t, []api.Token{nam("a"), sign("."), quoted("contains")}, nil, 2, api.ErrSyntax)
	wantParse(t, []api.Token{nam("a"), quoted("&&"), nam("a")}, nil, 1, api.ErrSyntax)
	wantParse(t, []api.Token{nam("a"), quoted("in"), nam("a")}, nil, 1, api.ErrSyntax)
	wantParse(t, []api.Token{quoted("if"), nam("a")}, nil, 1, api.ErrSyntax)
	wantParse(t, []api.Token{nam("a"), slot("in"), nam("a")}, nil, 1, api.ErrSyntax)
	wantParse(t, []api.Token{slot("true")}, variable("?true"), 0, api.OK)
	wantParse(t, []api.Token{slot("a"), sign("::"), quoted("b")}, nil, 1, api.ErrSyntax)
}

// PH1, PH2, PH3: numbers, with and without - ahead, and those that may not be.
func TestNumbers(t *testing.T) {
	const most, least = "9223372036854775807", "9223372036854775808"
	for line, want := range map[string][]api.Node{
		"0": one(0), "-0": one(0), "5": one(5), "-5": one(-5), "007": one(7), most: one(math.MaxInt), "-" + most: one(-math.MaxInt), "-" + least: one(math.MinInt),
		"--5": of(api.Neg, one(-5)), "-(5)": of(api.Neg, one(5)), "!5": of(api.Not, one(5)), "!-5": of(api.Not, one(-5)),
		"a-5": of(api.Sub, variable("a"), one(5)), "a--5": of(api.Sub, variable("a"), one(-5)), "5-5": of(api.Sub, one(5), one(5)),
		"-5-5": of(api.Sub, one(-5), one(5)), "-5*a": of(api.Mul, one(-5), variable("a")), "-5.a": with(api.Get, "a", one(-5)),
		"-5.contains(5)": of(api.One, one(-5), one(5)), "-(5.a)": of(api.Neg, with(api.Get, "a", one(5))), "-(5).a": of(api.Neg, with(api.Get, "a", one(5))),
		"(-5).a": with(api.Get, "a", one(-5)), "--" + least: of(api.Neg, one(math.MinInt)), "a--" + least: of(api.Sub, variable("a"), one(math.MinInt)),
	} {
		wantLine(t, line, want)
	}
	for line, index := range map[string]int{
		least: 0, "9999999999999999999": 0, "-9223372036854775809": 1, "-9999999999999999999": 1, "a-" + least: 2, "--9223372036854775809": 2, "-(" + least + ")": 2,
		"[1," + least + "]": 3, "{a:" + least: 3, "!" + least: 1, least + " b": 0, least + "+": 0, "(" + least: 1, least + "+" + least: 0, "1+" + least + "+" + least: 2,
	} {
		wantParse(t, words(line), nil, index, api.ErrOver)
	}
	wantStop(t, "a "+least, 1)
	wantStop(t, "a b "+least, 1)
	wantStop(t, "1 - - - "+least+" -", 6)
	wantStop(t, "{"+least, 1)
	wantStop(t, "a."+least, 2)
	wantStop(t, "-", 1)
	wantStop(t, "5 5", 1)
	wantStop(t, "-5 5", 2)
}

// PH3: the first word that cannot be, or the place behind all where there must
// be more.
func TestStops(t *testing.T) {
	for line, index := range map[string]int{
		"": 0, "a b": 1, "a ==": 2, "a == b == c": 3, "a == b < c": 3, "a has b has c": 3, "a is b in c": 3, "a in b in c": 3, "a like \"x\" && a like": 6,
		"{b:1,a:2}": 5, "{a:1,a:2}": 5, "{b:1,B:2}": 5, "{a:1,}": 5, "{,": 1, "{a": 2, "{a,": 2, "{a:": 3, "{a::": 2, "{1:": 1, `{"a":1}`: 1, "{a:1": 4, "{a:1 b:2}": 4, "{?a:1}": 1,
		"[": 1, "[,": 1, "[a,]": 3, "[a b]": 2, "[a": 2, "[a,": 3, "[a}": 2, "]": 0, "[a)": 2, "a]": 1, "}": 0, "a,b": 1, "a:b": 1, ":": 0, "::": 0,
		"(": 1, "()": 1, "(a": 2, "(a,": 2, "(a))": 3, ")": 0, "((a)": 4,
		"if": 1, "if a": 2, "if a b": 2, "if a then": 3, "if a else": 2, "if a then b": 4, "if a then b then": 4, "if a then b else": 5, "if a then b else c else": 6, "if )": 1, "if then": 2, "if then a": 2,
		"then": 1, "then a": 1, "else ==": 1, "in": 1, "is a": 1, "1 + then": 3, "1 + then + 2": 3, "a && if": 3, "a && if b": 3, "a && if b then c else d": 3, "a || (if": 4, "a + if::": 4, "! if a": 2, "a . contains ( if": 5, "a . contains ( if a": 6,
		"a.": 2, "a.1": 2, "a..": 2, "a.(": 2, "a.contains(": 4, "a.contains()": 4, "a.contains(b": 5, "a.contains(b,": 5, "a.contains b": 3, "a.contains(b)(": 6, ".a": 0,
		"a has": 2, `a has "b"`: 2, "a has ?b": 2, "a is": 2, "a is 1": 2, "a like": 2, "a like b": 2, "a like 1": 2, "a in": 2, "a in in": 3, "a in in a": 3, "a in ::": 2, `a in "x" ::`: 3, `a is b::"x"`: 3,
		"a::": 2, "a::b": 2, "a::1": 2, `a::"b"::`: 3, `a::"b" "c"`: 3, `true::`: 2, `true "x"`: 1, `true true`: 1, `1::"b"`: 1,
		"+": 0, "a + + b": 2, "* a": 0, "a * * b": 2, "a ! b": 1, "! + a": 1, "!": 1, "a !": 1, "a && && b": 2, "a ||": 2, "|| a": 0, "a <= < b": 2, "== a": 0, "- +": 1, "a - * b": 2,
	} {
		wantStop(t, line, index)
	}
}

// PH3: a , is told where no name can be behind the one ahead of it.
func TestLastName(t *testing.T) {
	nearly := last[1:] + "y"
	wantLine(t, "{"+last+":1}", rec(with(api.Field, last, one(1))))
	wantLine(t, "{a:{"+last+":1},b:2}", rec(with(api.Field, "a", rec(with(api.Field, last, one(1)))), with(api.Field, "b", one(2))))
	wantLine(t, "{"+last+":{a:1,b:2}}", rec(with(api.Field, last, rec(with(api.Field, "a", one(1)), with(api.Field, "b", one(2))))))
	wantLine(t, "{"+nearly+":1,"+last+":[2,3]}", rec(with(api.Field, nearly, one(1)), with(api.Field, last, set(one(2), one(3)))))
	wantStop(t, "{"+last+":1,", 4)
	wantStop(t, "{"+last+":1,a:1}", 4)
	wantStop(t, "{"+last+":1", 4)
	wantStop(t, "{"+last+":1]", 4)
	wantStop(t, "{"+nearly+":1,", 5)
	wantStop(t, "{"+nearly+":1,"+nearly+":1}", 5)
	wantStop(t, "{"+last[1:]+":1,", 5)
	wantStop(t, "{"+nearly+":1,"+last+":1,", 8)
}

// wrongWords are some that Spell refuses.
func wrongWords() []api.Token {
	return []api.Token{
		{}, {Kind: 6, S: "a"}, {Kind: -1, S: "a"}, {Kind: math.MaxInt, S: "a"}, nam(""), nam("1a"), nam("a b"), nam("a "), nam("+"), nam(last + "z"), nam("\xff"),
		num(""), num("00"), num("01"), num("-1"), num("+1"), num("10000000000000000000"), num("a"), num("1 "), quoted("\n"), quoted("\x7f"), quoted(strings.Repeat("a", api.MaxText+1)),
		slot(""), slot("?a"), slot("1"), slot(last + "z"), sign(""), sign("="), sign(">"), sign("a"), sign("if"), sign("&"), sign("( "), sign("(("), sign("..."),
	}
}

// PH3: what is told first where several things are wrong.
func TestParseErrorsInOrder(t *testing.T) {
	over := "9223372036854775808"
	for _, bad := range wrongWords() {
		wantParse(t, []api.Token{bad}, nil, 0, api.ErrSyntax)
		wantParse(t, []api.Token{nam("a"), sign("."), bad}, nil, 2, api.ErrSyntax)
		// Ahead of what is wrong with the words ahead of it.
		wantParse(t, append(words(") a "+over), bad), nil, 3, api.ErrSyntax)
		wantParse(t, append(words(over), bad, bad), nil, 1, api.ErrSyntax)
		full := slices.Repeat([]api.Token{sign("!")}, api.MaxWords-1)
		wantParse(t, append(full, bad), nil, api.MaxWords-1, api.ErrSyntax)
		// But behind how many there are.
		wantParse(t, append(full, bad, bad), nil, 0, api.ErrFull)
	}
	wantParse(t, slices.Repeat(words(")"), api.MaxWords+1), nil, 0, api.ErrFull)
	wantParse(t, slices.Repeat(words(over), api.MaxWords+1), nil, 0, api.ErrFull)
	wantParse(t, slices.Repeat(words("a"), 1<<16), nil, 0, api.ErrFull)
	wantParse(t, slices.Repeat(words(")"), api.MaxWords), nil, 0, api.ErrSyntax)
	wantParse(t, slices.Repeat(words("("), api.MaxWords), nil, api.MaxWords, api.ErrSyntax)
	wantParse(t, slices.Repeat(words("a"), api.MaxWords), nil, 1, api.ErrSyntax)
	wantParse(t, words(over+" a"), nil, 0, api.ErrOver)
	wantParse(t, words("a "+over), nil, 1, api.ErrSyntax)
}

// nots is so many Not about an expression.
func nots(count int, e []api.Node) []api.Node {
	return append(slices.Repeat(leaf(api.Node{Op: api.Not}), count), e...)
}

// PH3: as many nodes as may be, and one more; it is told at last.
func TestParseOfManyNodes(t *testing.T) {
	most := slices.Repeat(words("!"), api.MaxNodes-1)
	wantParse(t, append(most, nam("a")), nots(api.MaxNodes-1, variable("a")), 0, api.OK)
	more := append(slices.Clip(most), sign("!"))
	wantParse(t, append(slices.Clip(more), nam("a")), nil, 0, api.ErrFull)
	wantParse(t, more, nil, len(more), api.ErrSyntax)
	wantParse(t, append(slices.Clip(more), words("a b")...), nil, len(more)+1, api.ErrSyntax)
	wantParse(t, append(slices.Clip(more), words("9223372036854775808")...), nil, len(more), api.ErrOver)
	wantParse(t, append(slices.Repeat(words("!"), api.MaxWords-1), nam("a")), nil, 0, api.ErrFull)
	// Brackets are no nodes.
	in := slices.Concat(slices.Repeat(words("("), 149), words("!a"), slices.Repeat(words(")"), 149))
	wantParse(t, in, of(api.Not, variable("a")), 0, api.OK)
	wide := slices.Concat(words("[a"), slices.Repeat(words(",a"), 148), words("]"))
	wantParse(t, wide, set(slices.Repeat([][]api.Node{variable("a")}, 149)...), 0, api.OK)
	gets := append(words("a"), slices.Repeat(words(".b"), 149)...)
	wantParse(t, gets, append(slices.Repeat(with(api.Get, "b", nil), 149), variable("a")...), 0, api.OK)
	ors := append(words("a"), slices.Repeat(words("||a"), 99)...)
	wantParse(t, ors, append(slices.Repeat(of(api.Or), 99), slices.Repeat(variable("a"), 100)...), 0, api.OK)
	wantParse(t, append(words("!"), ors...), append(slices.Repeat(of(api.Or), 99), append(of(api.Not), slices.Repeat(variable("a"), 100)...)...), 0, api.OK)
	wantParse(t, append(words("!!"), ors...), nil, 0, api.ErrFull)
}

// PH3, P2: where the words begin is no matter, and nothing is written into them
// or kept of them.
func TestParseLeavesWordsAlone(t *testing.T) {
	ts := words(`if a then {b: [1, -2], c: A::"x"} else ?s.contains("t")`)
	want, _, err := phrase.Parse(ts)
	if err != nil {
		t.Fatal(err)
	}
	places := []int{-1, 7, math.MaxInt, math.MinInt, 0, 900}
	for i := range ts {
		ts[i].At = places[i%len(places)]
	}
	before := slices.Clone(ts)
	got, _, _ := phrase.Parse(ts)
	if !slices.Equal(got, want) || !slices.Equal(ts, before) {
		t.Errorf("got %v of %v, want %v of %v", got, ts, want, before)
	}
	clear(ts)
	if !slices.Equal(got, want) {
		t.Errorf("what is written into the words is seen in %v", got)
	}
	memory := words("a + b c d")
	wantParse(t, memory[:1], variable("a"), 0, api.OK)
	wantParse(t, memory[:2], nil, 2, api.ErrSyntax)
	wantParse(t, memory[2:3], variable("b"), 0, api.OK)
	if !slices.Equal(memory, words("a + b c d")) {
		t.Errorf("what lies behind the words is written into: %v", memory)
	}
}

// PH4: what is printed, and where there are ( and ).
func TestPrint(t *testing.T) {
	for _, line := range []string{
		"a", "?a", "true", "false", "0", "5", "- 5", "9223372036854775807", "- 9223372036854775808", `"a \" \\ b"`, `""`, `A::"x"`, `if::""`, "[]", "[a]", "[a,[],1]", "{}", "{a:1}", "{A:1,if:{}}",
		"if a then b else c", "if if a then b else c then if a then b else c else if a then b else c", "(if a then b else c)||d", "a||(if a then b else c)", "(if a then b else c).d", "!(if a then b else c)", "[if a then b else c,{a:if a then b else c}]", "a.contains(if a then b else c)",
		"a||b||c", "a||(b||c)", "a&&b||c&&d", "(a||b)&&(c||d)", "a&&b&&c", "a&&(b&&c)", "a||b&&c", "if a||b then a&&b else a||b",
		"a==b", "a<b", "a<=b", "a in b", "(a==b)==(c<d)", "(a in b)<=(c has d)", "a==b&&c==d", "(a||b)==(a&&b)", "!a==!b", "!(a==b)", "(a has b)has c", "(a is b)is c", `(a like "x")like "y"`, "a+b has c", `a-b like "*"`, "a*b is c", "(a==b) in c",
		"a+b+c", "a+(b+c)", "a-b-c", "a-(b-c)", "a-(b+c)", "a+b-c", "a*b+c*d", "(a+b)*(c+d)", "a*b*c", "a*(b*c)", "(a==b)+c", "a+(b==c)", "(a&&b)*c",
		"!a", "-a", "!!a", "--a", "!-a", "-!a", "-a*b", "a*-b", "-(a*b)", "!(a+b)", "a- -b", "a+!b", "(-a).b", "(!a).contains(!b)", "(a+b).c", "(a*b).containsAny(a*b)",
		"- -5", "-(5)", "!5", "!-5", "-(5.contains(a))", "-(5.a)", "-(5.a.b)", "-(5.a.contains(6).c)", "-5.a", "- -5.a", "-(5)*a", "-(5)+5", "5-5", "5- -5", "5- -(5)", "a-5", "a- -(5)", "-[5]", "-(5*a)", "-(5+a)", "-(-a).b", "-(0)", "-(9223372036854775807)", "- -9223372036854775808",
		"a.b", "a.b.c", "a.contains", "a.contains.contains(b)", "a.contains(b).contains(c)", "a.containsAll(b)", "a.containsAny(b||c)", "[].contains(1)", "{}.a", `"".a`, "5.a", "true.a", `A::"b".c`, "a.if", "a has in", "a is is",
	} {
		ts := words(line)
		e, _, err := phrase.Parse(ts)
		if err != nil {
			t.Errorf("%s: %v", line, err)
		}
		wantPrint(t, e, ts, api.OK)
	}
	// Of two ways that are as short, ( and ) stand about all of the part.
	e, _, _ := phrase.Parse(words("-(5).a.contains(5).b"))
	wantPrint(t, e, words("-(5.a.contains(5).b)"), api.OK)
	// The words themselves, once, without Parse.
	e = of(api.If, of(api.Neg, with(api.Get, "in", one(5))), with(api.Like, "a\"", variable("?s")), rec(with(api.Field, "is", of(api.In, truth(1), ent("if", "")))))
	wantPrint(t, e, []api.Token{
		nam("if"), sign("-"), sign("("), num("5"), sign("."), nam("in"), sign(")"), nam("then"), slot("s"), nam("like"), quoted("a\""),
		nam("else"), sign("{"), nam("is"), sign(":"), nam("true"), nam("in"), nam("if"), sign("::"), quoted(""), sign("}"),
	}, api.OK)
}

// randomExpr is an expression of about so many nodes.
func randomExpr(rng *rand.Rand, size int) []api.Node {
	name := func() string { return strings.Fields("a b if in contains _9 " + last)[rng.IntN(7)] }
	if size <= 1 {
		leaves := [][]api.Node{truth(rng.IntN(2)), one(rng.IntN(9)), one(-rng.IntN(9)), one(int(rng.Uint64())), one(math.MinInt), text("in"), ent(name(), "x"), variable("a"), variable("containsAll"), variable("?" + name()), set(), rec()}
		return leaves[rng.IntN(len(leaves))]
	}
	op := api.Set + rng.IntN(api.Any-api.Set+1)
	two := func() (x, y []api.Node) {
		first := rng.IntN(size)
		return randomExpr(rng, first), randomExpr(rng, size-1-first)
	}
	switch op {
	case api.Not, api.Neg:
		return of(op, randomExpr(rng, size-1))
	case api.Has, api.Get, api.Is, api.Like:
		return with(op, name(), randomExpr(rng, size-1))
	case api.Field, api.Var:
		return of(api.Neg, with(api.Get, name(), randomExpr(rng, size-2)))
	case api.Rec:
		x, y := two()
		return rec(with(api.Field, "if", x), with(api.Field, last, y))
	case api.Set:
		x, y := two()
		return set(x, y, one(size))
	case api.If:
		x, y := two()
		return of(op, x, y, randomExpr(rng, rng.IntN(3)))
	}
	x, y := two()
	return of(op, x, y)
}

// pairs are the places of ( and ) that belong together, but for those that
// contains and its like must have.
func pairs(ts []api.Token) [][2]int {
	var open []int
	var all [][2]int
	for i, t := range ts {
		switch t {
		case sign("("):
			open = append(open, i)
		case sign(")"):
			from := open[len(open)-1]
			open = open[:len(open)-1]
			if from < 2 || ts[from-2] != sign(".") {
				all = append(all, [2]int{from, i})
			}
		}
	}
	return all
}

// PH4: what is printed is read, and no ( and ) of it may be left out.
func TestPrintOfLongExpressions(t *testing.T) {
	rng := rand.New(rand.NewPCG(4, 9))
	printed := 0
	for range 2000 {
		e := randomExpr(rng, 1+rng.IntN(60))
		before := slices.Clone(e)
		ts, err := phrase.Print(e)
		if err != nil {
			t.Fatalf("Print(%s): %v", shown(e), err)
		}
		if !slices.Equal(e, before) {
			t.Fatalf("Print wrote into %s", shown(e))
		}
		wantParse(t, ts, e, 0, api.OK)
		for _, p := range pairs(ts) {
			less := slices.Delete(slices.Delete(slices.Clone(ts), p[1], p[1]+1), p[0], p[0]+1)
			if got, _, err := phrase.Parse(less); err == nil && slices.Equal(got, e) {
				t.Errorf("Print(%s): %s has needless brackets at %v", shown(e), shown(ts), p)
			}
			printed++
		}
		if t.Failed() {
			return
		}
	}
	if printed < 1000 {
		t.Errorf("only %d brackets were looked at", printed)
	}
}

// PH4: what is no expression, and as many words as may be, and one more.
func TestPrintErrors(t *testing.T) {
	a := variable("a")
	for _, e := range [][]api.Node{
		nil, {}, {{}}, {{Op: 28}}, {{Op: api.Not}}, {{Op: api.Set, N: 1}}, {{Op: api.Set, N: -1}}, {{Op: api.Set, N: math.MaxInt}}, {{Op: api.Field, S: "a"}, {Op: api.Num}},
		variable("if"), variable("?"), variable(""), variable("a b"), text("\n"), ent("", "a"), of(api.Eq, a), of(api.Eq, a, a, a), slices.Concat(a, a), with(api.Get, "1", a), with(api.Like, "\t", a),
		rec(with(api.Field, "b", a), with(api.Field, "a", a)), rec(with(api.Field, "a", a), with(api.Field, "a", a)), rec(a), {{Op: api.Bool, N: 2}}, {{Op: api.Num, S: "a"}}, {{Op: api.Not, N: 1}, {Op: api.Num}},
	} {
		wantPrint(t, e, nil, api.ErrSyntax)
		if plain.Told(tree.Check(e)) != api.ErrSyntax {
			t.Errorf("%v is an expression", e)
		}
	}
	wantPrint(t, nots(api.MaxNodes, a), nil, api.ErrFull)
	wantPrint(t, slices.Repeat(leaf(api.Node{}), api.MaxNodes+1), nil, api.ErrFull)
	wantPrint(t, nots(api.MaxNodes-1, a), append(slices.Repeat(words("!"), api.MaxNodes-1), nam("a")), api.OK)

	items := func(count int) []api.Node { return set(slices.Repeat([][]api.Node{a}, count)...) }
	list := slices.Concat(words("[a"), slices.Repeat(words(",a"), 148), words("]"))
	wantPrint(t, items(149), list, api.OK)
	wantPrint(t, of(api.Not, items(149)), append(words("!"), list...), api.OK)
	wantPrint(t, of(api.Not, of(api.Not, items(149))), nil, api.ErrFull)
	wantPrint(t, items(150), nil, api.ErrFull)
	wantPrint(t, nots(149, one(-5)), append(slices.Repeat(words("!"), 149), words("-5")...), api.OK)
	// Brackets are words too.
	negs, gets := slices.Repeat(of(api.Neg), 100), slices.Repeat(with(api.Get, "a", nil), 99)
	wantPrint(t, slices.Concat(negs, gets, a), slices.Concat(slices.Repeat(words("-"), 100), words("a"), slices.Repeat(words(".a"), 99)), api.OK)
	wantPrint(t, slices.Concat(negs, gets, one(5)), nil, api.ErrFull)
	wantPrint(t, slices.Concat(negs[1:], gets, one(5)), slices.Concat(slices.Repeat(words("-"), 99), words("(5"), slices.Repeat(words(".a"), 99), words(")")), api.OK)
}

// PH4, P2, P4: what is printed is fresh, and what lies behind an expression is
// left alone.
func TestPrintLeavesNodesAlone(t *testing.T) {
	memory := slices.Concat(of(api.Not, variable("a")), variable("b"), variable("c"))
	before := slices.Clone(memory)
	wantPrint(t, memory[:2], words("!a"), api.OK)
	wantPrint(t, memory[:1], nil, api.ErrSyntax)
	wantPrint(t, memory[1:2], words("a"), api.OK)
	if !slices.Equal(memory, before) {
		t.Errorf("Print wrote into %v", memory)
	}
	got, _ := phrase.Print(memory[:2])
	clear(memory)
	again, _ := phrase.Print(before[:2])
	clear(got)
	if !slices.Equal(again, words("!a")) {
		t.Errorf("what one call tells is seen in %v", again)
	}
}
