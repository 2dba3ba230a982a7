package pol_test

import (
	"fmt"
	"math/rand/v2"
	"regexp"
	"slices"
	"strings"
	"testing"

	"wicketgate/api"
	"wicketgate/phrase"
	"wicketgate/pol"
	"wicketgate/word"
)

// wantRead fails unless a policy is written, and read again.
func wantRead(t *testing.T, p policy) {
	t.Helper()
	s, err := pol.Write(p)
	wantTold(t, "Write of "+shown(p), err, api.OK)
	got, err := pol.Read(s)
	if err != nil || !same(got, p) {
		t.Errorf("Read of %q: got %s and %v, want %s", s, shown(got), err, shown(p))
	}
}

// wantWrong fails unless no policy is written so.
func wantWrong(t *testing.T, s string) {
	t.Helper()
	got, err := pol.Read(s)
	wantTold(t, "Read of "+shown(s), err, api.ErrSyntax)
	if !same(got, policy{}) || got.Conds != nil {
		t.Errorf("Read of %s: got %s with an error", shown(s), shown(got))
	}
}

// PO3, PO4: the text of each policy, and the policy of each text.
func TestWriteAndRead(t *testing.T) {
	for _, m := range meanings() {
		before := cloned(m.policy)
		got, err := pol.Write(m.policy)
		if err != nil || got != m.text {
			t.Fatalf("Write of %s: got %q and %v, want %q", shown(m.policy), got, err, m.text)
		}
		if !same(before, m.policy) {
			t.Fatalf("Write wrote into %s", shown(before))
		}
		wantRead(t, m.policy)
	}
}

// PO3: once in full.
func TestWriteInFull(t *testing.T) {
	m := headed("keep_out", true, ofBelow("User", "Group", "all", `Group :: "all"`), belowIt("Action", "write", `Action :: "write"`), sameSlot())
	m = m.and(when(written()["{ } == [ { } ]"]), "").and(unless(written()["- ( 7 )"]), "")
	got, err := pol.Write(m.policy)
	want := `keep_out : forbid ( principal is User in Group :: "all" , action in Action :: "write" , resource == ?resource ) when { { } == [ { } ] } unless { - ( 7 ) }`
	if err != nil || got != want {
		t.Errorf("got %q and %v, want %q", got, err, want)
	}
}

// setText is how a set of so many numbers is written: with twice as many words
// as it has numbers, and one.
func setText(count int) string {
	return "[ 7" + strings.Repeat(" , 7", count-1) + " ]"
}

// PO3, PO4: as many words as may be, and one more: of all, and of a condition.
// What there is besides has 10 words, and 3 of each condition.
func TestWords(t *testing.T) {
	more := func(count int, text string) string { return strings.Repeat("! ", count) + text }
	for _, c := range []struct {
		what string
		m    meaning
		want api.Errno
	}{
		{"300 words", plainest().and(when(numbers(143)), setText(143)), api.OK},
		{"301 words", plainest().and(when(nots(1, numbers(143))), more(1, setText(143))), api.ErrFull},
		{"300 words of two", plainest().and(unless(numbers(70)), setText(70)).and(when(nots(2, numbers(70))), more(2, setText(70))), api.OK},
		{"301 words of two", plainest().and(unless(numbers(70)), setText(70)).and(when(nots(3, numbers(70))), more(3, setText(70))), api.ErrFull},
		{"301 words, the first too many", plainest().and(unless(nots(3, numbers(70))), more(3, setText(70))).and(when(numbers(70)), setText(70)), api.ErrFull},
		{"a condition of 299 words", plainest().and(when(numbers(149)), setText(149)), api.ErrFull},
		{"a condition of 300 words", plainest().and(when(nots(1, numbers(149))), more(1, setText(149))), api.ErrFull},
		{"a condition of 301 words", plainest().and(when(nots(2, numbers(149))), more(2, setText(149))), api.ErrFull},
		{"301 words in the last condition", plainest().and(when(truth(1)), "true").and(unless(nots(2, numbers(149))), more(2, setText(149))), api.ErrFull},
		{"a condition of 200 nodes", plainest().and(when(numbers(199)), setText(199)), api.ErrFull},
	} {
		wantText(t, c.what, c.m, c.want)
	}
}

// wantText fails unless Write tells the text of a policy and Read the policy of
// the text, or that error, and none.
func wantText(t *testing.T, what string, m meaning, want api.Errno) {
	t.Helper()
	got, err := pol.Write(m.policy)
	wantTold(t, "Write of "+what, err, want)
	if want != api.OK {
		wantWrong(t, m.text)
		m.text = ""
	} else {
		wantRead(t, m.policy)
	}
	if got != m.text {
		t.Errorf("Write of %s: got %q, want %q", what, got, m.text)
	}
}

// PO3, PO4: as many bytes as may be, and one more.
func TestBytes(t *testing.T) {
	most := 0
	for size := range api.MaxText + 1 {
		x := strings.Repeat("x", size)
		m := headed(longName, true, sameAs(longName, x, longName+` :: "`+x+`"`), everywhere(), everywhere())
		long := strings.Repeat("y", api.MaxText)
		e, text := nodes{{Op: api.Set, N: 12}}, "["
		for range e[0].N {
			e = append(e, api.Node{Op: api.Text, S: long})
			text += ` "` + long + `" ,`
		}
		m = m.and(unless(e), strings.TrimSuffix(text, ",")+"]")
		want := api.OK
		if len(m.text) > api.MaxLine {
			want = api.ErrFull
		}
		most = max(most, len(m.text))
		wantText(t, fmt.Sprintf("%d bytes", len(m.text)), m, want)
	}
	if most <= api.MaxLine || most > api.MaxLine+api.MaxText-1 {
		t.Errorf("at most %d bytes were looked at", most)
	}
}

// PO4: texts that are no policy's.
func TestReadErrors(t *testing.T) {
	for _, s := range []string{
		"", " ", "p", "p :", "p : permit", "p : permit (", ":", "(", ")", "}", "{", "when", `"`, "?", "?p", "\n", "\xff", "#",
		"p : permit ( principal , action , resource", "p : permit ( principal , action )", "p : permit ( principal , action , resource , context )",
		"p : permit ( action , principal , resource )", "p : permit ( principal , resource , action )", "p : permit ( principal action resource )", "p : permit ( principal , action , resource ) )",
		"permit ( principal , action , resource )", ": permit ( principal , action , resource )", "p permit ( principal , action , resource )", "p : Permit ( principal , action , resource )", "p : allow ( principal , action , resource )", "p : forbid permit ( principal , action , resource )",
		`"p" : permit ( principal , action , resource )`, "7 : permit ( principal , action , resource )", "?p : permit ( principal , action , resource )", longName + "N : permit ( principal , action , resource )",
		`p : "permit" ( principal , action , resource )`, `p : permit ( "principal" , action , resource )`, "p : permit ( ?principal , action , resource )", "p : permit ( ( principal ) , action , resource )",
	} {
		wantWrong(t, s)
	}
	for _, scope := range []string{
		"== ?resource", "in ?resource", "== ?Principal", "is ?principal", "== principal", "in principal", "is", "in", "==", "is A in", "is A in ?principal", "is A in B", `is A == B :: "b"`, `in A :: "a" is A`,
		"has a", "< 7", "== 7", `== "a"`, "== A", "== A ::", "== A :: a", `== A : : "a"`, `== :: "a"`, `== A "a"`, `== A :: "a" "a"`, `== 7 :: "a"`, `in [ A :: "a" ]`, `== ( A :: "a" )`, `is A :: "a"`, `is "A"`, "is 7", "is A B",
		`== ` + longName + `N :: "a"`, "is " + longName + "N", `== A :: "` + strings.Repeat("x", 61) + `"`, `in A :: "\a"`, `in A :: "`, "in A :: 'a'", `in A :: "` + "\t" + `"`, `like "a"`, `"in" A :: "a"`, `?in A :: "a"`,
	} {
		wantWrong(t, "p : permit ( principal "+scope+" , action , resource )")
	}
	for _, scope := range []string{"== ?action", "in ?action", "== ?principal", "in ?resource"} {
		wantWrong(t, "p : permit ( principal , action "+scope+" , resource )")
	}
	for _, scope := range []string{"== ?principal", "in ?principal", "== ?action", "in ?resources"} {
		wantWrong(t, "p : permit ( principal , action , resource "+scope+" )")
	}
}

// PO4: conditions that no policy has, or that are written otherwise.
func TestReadCondErrors(t *testing.T) {
	for _, s := range []string{
		"when", "when {", "when { }", "when { true", "when true", "when true }", "when ( true )", "when [ true ]", "{ true }", "true", "if { true }", "When { true }", `"when" { true }`, "?when { true }", `when "{" true }`, `when { true "}"`, "when { true } ,", "when , { true }", "unless when { true }", "when { true } when", "when { true } }", "when { { true }", "when { { true } }", "when { true } { true }", "when { true } true", "when { true unless { true }", "when { true } } { true }", "when { true when { true } }",
		"when { true true }", "when { true , true }", "when { }  }", "when { a : true }", "when { { a : true }", "when { { b : 1 , a : 1 } }", "when { { a : 1 , a : 1 } }", "when { if }", "when { a b }", "when { = }",
		"when { ( true ) }", "when { ( a ) . b }", "when { ( a && b ) && c }", "when { - 0 }", "when { 007 }", "when { - ( a ) }", "when { [ 1 , ] }",
		"when { ?principal }", "when { ?resource == 1 }", "unless { ?a }", "when { { a : ?b } }", "when { principal == ?principal }",
		"when { 9223372036854775808 }", "when { - 9223372036854775809 }", "when { 99999999999999999999 }", "when { - ( - 5 ) }", `when { "` + strings.Repeat("x", 61) + `" }`, "when { " + longName + "N }", "when { a # b }",
		"when { " + strings.Repeat("! ", 200) + "a }", "when { a } when { " + strings.Repeat("! ", 200) + "a }", strings.Repeat("when { a } ", 4) + "when { a }", strings.Repeat("unless { a } ", 5) + "unless { a }",
	} {
		wantWrong(t, plainest().text+" "+s)
		wantWrong(t, plainest().text+" when { true } "+s)
	}
	wantRead(t, plainest().and(when(nodes{{Op: api.Neg}, {Op: api.Num, N: -5}}), "").policy)
}

// PO4: other blanks than Write has.
func TestReadBlanks(t *testing.T) {
	for _, m := range meanings()[:200] {
		for _, s := range []string{" " + m.text, m.text + " ", m.text + "\n", "\t" + m.text} {
			wantWrong(t, s)
		}
	}
	m := plainest().and(when(written()["{ a : { } }"]), "{ a : { } }").and(unless(written()["- ( 7 )"]), "- ( 7 )")
	for i := range m.text {
		if m.text[i] == ' ' {
			for _, blank := range []string{"", "  ", "\t", "\n", "\u00a0", "\x00"} {
				wantWrong(t, m.text[:i]+blank+m.text[i+1:])
			}
		}
		// What ends behind a condition may be one, and nothing else.
		wantJust(t, m.text[:i])
	}
}

// PO4: long texts, and texts of many words.
func TestReadLong(t *testing.T) {
	for _, s := range []string{"{", "}", "{ ", "when { ", "when ", "p : permit ( ", "! ", "( ", `"`, "?", "a", "7", " ", "when { a } "} {
		for _, count := range []int{300, 301, 450, 900, 901, 1 << 16} {
			wantWrong(t, strings.Repeat(s, count))
			wantWrong(t, plainest().text+" "+strings.Repeat(s, count))
		}
	}
}

// headForm is what is written ahead of the conditions, by another hand than the
// program's.
var headForm = func() *regexp.Regexp {
	name := `[A-Za-z_][A-Za-z_0-9]{0,19}`
	uid := name + ` :: "(?:[ !#-\[\]-~]|\\["\\]){0,60}"`
	scope := func(side, slot string) string {
		return side + `(?: == ` + uid + `| in ` + uid + `| is ` + name + `| is ` + name + ` in ` + uid + slot + `)?`
	}
	slot := func(side string) string { return `| == \?` + side + `| in \?` + side }
	return regexp.MustCompile(`^` + name + ` : (?:permit|forbid) \( ` + scope("principal", slot("principal")) + ` , ` + scope("action", "") + ` , ` + scope("resource", slot("resource")) + ` \)`)
}()

// condOf tells if words are those of a condition's expression.
func condOf(words []string) bool {
	text := strings.Join(words, " ")
	ts, _, err := word.Read(text)
	if err != nil {
		return false
	}
	e, _, err := phrase.Parse(ts)
	if err != nil {
		return false
	}
	printed, err := phrase.Print(e)
	if err != nil {
		return false
	}
	spelled, err := word.Spell(printed)
	return err == nil && spelled == text && !slices.ContainsFunc(ts, func(t api.Token) bool { return t.Kind == api.Slot })
}

// isConds tells if words are at most so many conditions: it tries all places at
// which one may end.
func isConds(words []string, most int) bool {
	if len(words) == 0 {
		return true
	}
	if most == 0 || len(words) < 4 || words[0] != "when" && words[0] != "unless" || words[1] != "{" {
		return false
	}
	for end := 3; end < len(words); end++ {
		if words[end] == "}" && isConds(words[end+1:], most-1) && condOf(words[2:end]) {
			return true
		}
	}
	return false
}

// isText tells if a text is a policy's.
func isText(s string) bool {
	head := headForm.FindString(s)
	if head == "" || len(s) > api.MaxLine {
		return false
	}
	rest := strings.TrimPrefix(s, head)
	if rest == "" {
		return true
	}
	words, found := strings.CutPrefix(rest, " ")
	return found && isConds(strings.Split(words, " "), api.MaxConds)
}

// wantJust fails unless Read tells a policy just where there is one, and the one
// of which Write tells that text.
func wantJust(t *testing.T, s string) bool {
	t.Helper()
	if !isText(s) {
		wantWrong(t, s)
		return false
	}
	p, err := pol.Read(s)
	wantTold(t, "Read of "+shown(s), err, api.OK)
	if got, err := pol.Write(p); err != nil || got != s {
		t.Errorf("Write of what Read tells of %q: got %q and %v", s, got, err)
	}
	return true
}

// changed are rows of words that differ from one in a word.
func changed(row, vocabulary []string) [][]string {
	var all [][]string
	for i := range len(row) + 1 {
		for _, s := range vocabulary {
			all = append(all, slices.Insert(slices.Clone(row), i, s))
		}
		if i == len(row) {
			break
		}
		all = append(all, slices.Delete(slices.Clone(row), i, i+1))
		for _, s := range vocabulary {
			all = append(all, slices.Replace(slices.Clone(row), i, i+1, s))
		}
		if i > 0 {
			swapped := slices.Clone(row)
			swapped[i-1], swapped[i] = row[i], row[i-1]
			all = append(all, swapped)
		}
	}
	return all
}

// PO4: of texts that differ in a word from one that is written, those are read
// that are written too, and no others.
func TestReadOfChangedWords(t *testing.T) {
	vocabulary := strings.Fields(`p permit forbid principal action resource in is has when unless true a ?principal ?resource ?action 7 "a" "in" "" ( ) { } [ ] , : :: == . && ! - # ` + longName + "N")
	read := 0
	for _, s := range []string{
		plainest().text,
		`p : forbid ( principal is A in B :: "b" , action == A :: "a" , resource in ?resource )`,
		`p : permit ( principal == ?principal , action in A :: "a" , resource is A )`,
		`in : permit ( principal is in in in :: "in" , action is is , resource in in :: "in" )`,
		`p : permit ( principal , action , resource ) when { true } unless { { a : { } } }`,
		`p : permit ( principal , action , resource ) when { if a then { } else [ ] } when { "}" }`,
		`p : permit ( principal , action , resource ) when { a } when { b } unless { c } unless { - ( 7 ) }`,
	} {
		row := strings.Fields(s)
		if !wantJust(t, s) {
			t.Errorf("%q is none", s)
		}
		for _, other := range changed(row, vocabulary) {
			if wantJust(t, strings.Join(other, " ")) {
				read++
			}
		}
	}
	if read < 500 {
		t.Errorf("only %d other policies were read", read)
	}
}

// PO4: likewise of texts that differ in bytes.
func TestReadOfChangedBytes(t *testing.T) {
	rng := rand.New(rand.NewPCG(15, 4))
	bytes := []byte(` "\?:{}()[],=.-!_a7`)
	bytes = append(bytes, 0, 9, 10, 31, 127, 128, 255)
	read := 0
	for _, s := range []string{
		`p : forbid ( principal is A in B :: "b" , action == A :: "a\\" , resource in ?resource )`,
		`p1 : permit ( principal , action , resource ) when { a . b } unless { { a : [ 10 ] } }`,
	} {
		for range 4000 {
			other := []byte(s)
			for range 1 + rng.IntN(3) {
				i, c := rng.IntN(len(other)), bytes[rng.IntN(len(bytes))]
				switch rng.IntN(3) {
				case 0:
					other[i] = c
				case 1:
					other = slices.Insert(other, i, c)
				case 2:
					other = slices.Delete(other, i, i+1)
				}
			}
			if wantJust(t, string(other)) {
				read++
			}
		}
	}
	if read < 50 {
		t.Errorf("only %d other policies were read", read)
	}
}
