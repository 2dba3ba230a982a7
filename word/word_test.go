package word_test

import (
	"fmt"
	"math"
	"math/rand/v2"
	"regexp"
	"slices"
	"strings"
	"testing"
	"unsafe"

	"wicketgate/api"
	"wicketgate/plain"
	"wicketgate/word"
)

// Short forms of words, all of them at byte 0.

func nam(s string) api.Token    { return api.Token{Kind: api.Name, S: s} }
func num(s string) api.Token    { return api.Token{Kind: api.Number, S: s} }
func quoted(s string) api.Token { return api.Token{Kind: api.Quoted, S: s} }
func slot(s string) api.Token   { return api.Token{Kind: api.Slot, S: s} }
func sign(s string) api.Token   { return api.Token{Kind: api.Sign, S: s} }

// at is a word that begins at some byte.
func at(b int, t api.Token) api.Token {
	t.At = b
	return t
}

// unplaced are words with their places left out.
func unplaced(ts []api.Token) []api.Token {
	out := slices.Clone(ts)
	for i := range out {
		out[i].At = 0
	}
	return out
}

// shown has no more of a thing than a message can bear.
func shown(x any) string {
	s := fmt.Sprintf("%+q", fmt.Sprint(x))
	if len(s) > 200 {
		s = s[:200] + "..."
	}
	return s
}

// wantRead fails unless Read tells these words, or that error at that byte.
func wantRead(t *testing.T, line string, want []api.Token, place int, wrong api.Errno) {
	t.Helper()
	got, b, err := word.Read(line)
	if !slices.Equal(got, want) || b != place || plain.Told(err) != wrong {
		t.Errorf("Read(%s): got %s, %d and %v, want %s, %d and %v",
			shown(line), shown(got), b, err, shown(want), place, wrong)
	}
	if err != nil && got != nil {
		t.Errorf("Read(%s): a list beside the error %v", shown(line), err)
	}
}

// wantWrong fails unless Read tells that error at that byte.
func wantWrong(t *testing.T, line string, place int, wrong api.Errno) {
	t.Helper()
	wantRead(t, line, nil, place, wrong)
}

// wantWord fails unless all that Read tells is that word.
func wantWord(t *testing.T, line string, want api.Token) {
	t.Helper()
	wantRead(t, line, []api.Token{want}, 0, api.OK)
}

// wantSpell fails unless Spell tells that line, or that error.
func wantSpell(t *testing.T, ts []api.Token, want string, wrong api.Errno) {
	t.Helper()
	got, err := word.Spell(ts)
	if got != want || plain.Told(err) != wrong {
		t.Errorf("Spell(%s): got %s and %v, want %s and %v", shown(ts), shown(got), err, shown(want), wrong)
	}
}

// allBytes holds each byte there is, once, as a text.
func allBytes() []string {
	var all []string
	for b := range 256 {
		all = append(all, string([]byte{byte(b)}))
	}
	return all
}

// texts gives all texts of at most most bytes, each of them from letters.
func texts(letters string, most int) []string {
	all := []string{""}
	for from := 0; most > 0; most-- {
		upTo := len(all)
		for _, w := range all[from:upTo] {
			for i := range len(letters) {
				all = append(all, w+letters[i:i+1])
			}
		}
		from = upTo
	}
	return all
}

// signs are those that the chapter names.
var signs = strings.Fields("( ) [ ] { } , : . :: == < <= && || ! + - *")

// forms are the words of the chapter, by another hand than the program's.
var forms = []struct {
	kind int
	rule *regexp.Regexp
	most int
}{
	{api.Name, regexp.MustCompile(`\A([A-Za-z_][0-9A-Za-z_]*)`), api.MaxName},
	{api.Number, regexp.MustCompile(`\A0*([1-9][0-9]*|0)`), 19},
	{api.Quoted, regexp.MustCompile(`\A"((?:[ !#-\[\]-~]|\\["\\])*)"`), api.MaxText},
	{api.Slot, regexp.MustCompile(`\A\?([A-Za-z_][0-9A-Za-z_]*)`), api.MaxName},
	{api.Sign, regexp.MustCompile(`\A(::|==|<=|&&|\|\||[()\[\]{},:.<!+*-])`), 2},
}

var unguard = strings.NewReplacer(`\\`, `\`, `\"`, `"`)

// firstByRule is the word that a line begins with, how many bytes it has there,
// and what is wrong with it.
func firstByRule(line string) (api.Token, int, api.Errno) {
	for _, form := range forms {
		m := form.rule.FindStringSubmatch(line)
		if m == nil {
			continue
		}
		s := m[1]
		if form.kind == api.Quoted {
			s = unguard.Replace(s)
		}
		if len(s) > form.most {
			return api.Token{}, 0, api.ErrFull
		}
		return api.Token{Kind: form.kind, S: s}, len(m[0]), api.OK
	}
	return api.Token{}, 0, api.ErrSyntax
}

// readByRule is what Read must tell.
func readByRule(line string) ([]api.Token, int, api.Errno) {
	if len(line) > api.MaxLine {
		return nil, 0, api.ErrFull
	}
	var ts []api.Token
	for b := 0; b < len(line); {
		if line[b] == ' ' {
			b++
			continue
		}
		one, size, wrong := firstByRule(line[b:])
		if wrong == api.OK && len(ts) == api.MaxWords {
			wrong = api.ErrFull
		}
		if wrong != api.OK {
			return nil, b, wrong
		}
		ts = append(ts, at(b, one))
		b += size
	}
	return ts, 0, api.OK
}

// WO1: by examples.
func TestRead(t *testing.T) {
	for _, c := range []struct {
		line string
		want []api.Token
	}{
		{"", nil},
		{" ", nil},
		{strings.Repeat(" ", api.MaxLine), nil},
		{"a", []api.Token{nam("a")}},
		{"  a  ", []api.Token{at(2, nam("a"))}},
		{"_a9Z", []api.Token{nam("_a9Z")}},
		{"a b", []api.Token{nam("a"), at(2, nam("b"))}},
		{"if in", []api.Token{nam("if"), at(3, nam("in"))}},
		{"0", []api.Token{num("0")}},
		{"000", []api.Token{num("0")}},
		{"007", []api.Token{num("7")}},
		{"0 0", []api.Token{num("0"), at(2, num("0"))}},
		{"1 00 2", []api.Token{num("1"), at(2, num("0")), at(5, num("2"))}},
		{"700", []api.Token{num("700")}},
		{"-1", []api.Token{sign("-"), at(1, num("1"))}},
		{"12ab", []api.Token{num("12"), at(2, nam("ab"))}},
		{"0x1F", []api.Token{num("0"), at(1, nam("x1F"))}},
		{"1_000", []api.Token{num("1"), at(1, nam("_000"))}},
		{"1.5", []api.Token{num("1"), at(1, sign(".")), at(2, num("5"))}},
		{`""`, []api.Token{quoted("")}},
		{`" "`, []api.Token{quoted(" ")}},
		{`"a b"`, []api.Token{quoted("a b")}},
		{`"\"\\"`, []api.Token{quoted(`"\`)}},
		{`"\\""a"`, []api.Token{quoted(`\`), at(4, quoted("a"))}},
		{`"?a 1 ::"`, []api.Token{quoted("?a 1 ::")}},
		{`a"b"c`, []api.Token{nam("a"), at(1, quoted("b")), at(4, nam("c"))}},
		{`1"b"2`, []api.Token{num("1"), at(1, quoted("b")), at(4, num("2"))}},
		{"?who", []api.Token{slot("who")}},
		{"?if", []api.Token{slot("if")}},
		{"?_1?a", []api.Token{slot("_1"), at(3, slot("a"))}},
		{"a?b", []api.Token{nam("a"), at(1, slot("b"))}},
		{`User::"a"`, []api.Token{nam("User"), at(4, sign("::")), at(6, quoted("a"))}},
		{"a<=007 ?who \"x\\\"\"::", []api.Token{
			nam("a"), at(1, sign("<=")), at(3, num("7")), at(7, slot("who")), at(12, quoted(`x"`)), at(17, sign("::")),
		}},
		{"::::", []api.Token{sign("::"), at(2, sign("::"))}},
		{":::", []api.Token{sign("::"), at(2, sign(":"))}},
		{": :", []api.Token{sign(":"), at(2, sign(":"))}},
		{"<<=<", []api.Token{sign("<"), at(1, sign("<=")), at(3, sign("<"))}},
		{"<===", []api.Token{sign("<="), at(2, sign("=="))}},
		{"====", []api.Token{sign("=="), at(2, sign("=="))}},
		{"&&&&||||", []api.Token{sign("&&"), at(2, sign("&&")), at(4, sign("||")), at(6, sign("||"))}},
		{"!!-+*", []api.Token{sign("!"), at(1, sign("!")), at(2, sign("-")), at(3, sign("+")), at(4, sign("*"))}},
		{"([{}]),.", []api.Token{
			sign("("), at(1, sign("[")), at(2, sign("{")), at(3, sign("}")), at(4, sign("]")), at(5, sign(")")), at(6, sign(",")), at(7, sign(".")),
		}},
	} {
		wantRead(t, c.line, c.want, 0, api.OK)
	}
}

// WO2: what is wrong with a word, and the byte at which it begins.
func TestReadWrong(t *testing.T) {
	for _, c := range []struct {
		line  string
		place int
	}{
		{"=", 0}, {"&", 0}, {"|", 0}, {">", 0}, {"/", 0}, {"%", 0}, {"'a'", 0}, {"\\", 0}, {"@", 0}, {"#", 0}, {";", 0}, {"~", 0}, {"^", 0}, {"$", 0}, {"`", 0},
		{"a &b", 2}, {"a& &b", 1}, {"a = b", 2}, {"= =", 0}, {"===", 2}, {"&&&", 2}, {"|||", 2}, {"<= =", 3}, {"< =", 2}, {"!=", 1}, {">=", 0}, {"=<", 0}, {"| |", 0},
		{"?", 0}, {"a ?", 2}, {"? a", 0}, {"?1", 0}, {"?1a", 0}, {"??a", 0}, {"?\"a\"", 0}, {"?a?", 2}, {"?-", 0}, {"?\u00e9", 0},
		{"\"", 0}, {"a \"", 2}, {`"a`, 0}, {`"a" "`, 4}, {`"a"b"`, 4}, {`"""`, 2},
		{`"\"`, 0}, {`"\`, 0}, {`"\\\"`, 0}, {`"\a"`, 0}, {`"\n"`, 0}, {`"a\ "`, 0}, {`  "ab\c"`, 2}, {`"\\\a"`, 0},
		{"\"\x1f\"", 0}, {"\"\x7f\"", 0}, {"\"a\n\"", 0}, {"\"\\\n\"", 0}, {"\"caf\u00e9\"", 0}, {"a\"\x00\"", 1}, {"\"\t", 0},
		{"a\tb", 1}, {"a\n", 1}, {"\r", 0}, {"a\x00", 1}, {"caf\u00e9", 3}, {"1\u00a02", 1}, {"\xff", 0},
		// The first word that is wrong is told, whatever stands behind it.
		{"a = " + strings.Repeat("b", api.MaxName+1), 2}, {"& \"", 0}, {`"\a" =`, 0}, {"\" &", 0},
	} {
		wantWrong(t, c.line, c.place, api.ErrSyntax)
	}
}

// WO1, WO2: each byte alone, and beside words that it may belong to.
func TestReadEachByte(t *testing.T) {
	for _, b := range allBytes() {
		for _, line := range []string{
			b, b + b, b + " " + b, "a" + b, b + "a", "1" + b, b + "1", "?" + b, "?a" + b, `"` + b, `"` + b + `"`, `"\` + b + `"`, `"a` + b + `z"`, `""` + b,
		} {
			ts, place, wrong := readByRule(line)
			wantRead(t, line, ts, place, wrong)
		}
	}
}

// WO1: each sign, and the longer one where two could be; no other is one.
func TestSigns(t *testing.T) {
	if len(signs) != 19 {
		t.Fatalf("%d signs", len(signs))
	}
	for _, s := range signs {
		wantWord(t, s, sign(s))
		wantRead(t, " "+s+" ", []api.Token{at(1, sign(s))}, 0, api.OK)
		wantRead(t, "a"+s+"1", []api.Token{nam("a"), at(1, sign(s)), at(1+len(s), num("1"))}, 0, api.OK)
		wantSpell(t, []api.Token{sign(s)}, s, api.OK)
	}
	for _, a := range allBytes() {
		for _, b := range allBytes() {
			line := a + b
			got, _, err := word.Read(line)
			if one := err == nil && slices.Equal(got, []api.Token{sign(line)}); one != slices.Contains(signs, line) {
				t.Errorf("Read(%s): got %v and %v", shown(line), got, err)
			}
		}
	}
}

// WO1, WO2: all short lines.
func TestReadAllShortLines(t *testing.T) {
	lines := slices.Concat(texts("aZ_09 \"\\?:=<&|!-(\x1f", 4), texts("\"\\a \x7f", 7), texts(":=<", 7), texts("?a0 ", 6))
	for _, line := range lines {
		ts, place, wrong := readByRule(line)
		wantRead(t, line, ts, place, wrong)
		if t.Failed() {
			return
		}
	}
}

// WO1, WO2: long lines of pieces that are right or wrong, as long as may be and
// longer, of many words and of few.
func TestReadLongLines(t *testing.T) {
	pieces := slices.Concat(signs, []string{
		"a", "_", "Zz9", "0", "007", "12", `""`, `"a b"`, `"\"\\"`, "?a", "?if", " ", "  ", "   ", strings.Repeat("n", 20), strings.Repeat("0", 30), `"` + strings.Repeat(`\"`, 60) + `"`,
	})
	wrong := []string{"=", "&", "?", "?0", "\t", "\"", `"\a"`, strings.Repeat("n", 21), "?" + strings.Repeat("n", 21), strings.Repeat("1", 20), `"` + strings.Repeat("t", 61) + `"`}
	source := rand.New(rand.NewPCG(8, 8))
	told := map[api.Errno]int{}
	for range 4000 {
		var line []byte
		gap := []string{"", " "}[source.IntN(2)]
		few := source.IntN(len(pieces)) + 1
		for range source.IntN(700) {
			line = append(line, pieces[source.IntN(few)]+gap...)
		}
		if source.IntN(3) == 0 {
			line = append(line, wrong[source.IntN(len(wrong))]...)
		}
		if source.IntN(4) > 0 {
			line = line[:min(len(line), api.MaxLine)]
		}
		ts, place, errno := readByRule(string(line))
		wantRead(t, string(line), ts, place, errno)
		told[errno]++
	}
	for _, errno := range []api.Errno{api.OK, api.ErrSyntax, api.ErrFull} {
		if told[errno] < 100 {
			t.Errorf("only %d lines with %v", told[errno], errno)
		}
	}
}

// WO2: how long a line may be; that comes ahead of all else, at byte 0.
func TestReadLineLength(t *testing.T) {
	blanks := strings.Repeat(" ", api.MaxLine-1)
	wantRead(t, blanks+"a", []api.Token{at(api.MaxLine-1, nam("a"))}, 0, api.OK)
	wantWrong(t, blanks+"=", api.MaxLine-1, api.ErrSyntax)
	for _, line := range []string{
		blanks + "aa", blanks + "a ", blanks + " =", "=" + blanks + " ", "  =" + blanks, "   \"" + blanks,
		strings.Repeat("a ", api.MaxLine), strings.Repeat(" ", 1<<20), strings.Repeat("\x00", api.MaxLine+1),
	} {
		wantWrong(t, line, 0, api.ErrFull)
	}
	wantWord(t, strings.Repeat("0", api.MaxLine), num("0"))
	wantWrong(t, strings.Repeat("0", api.MaxLine+1), 0, api.ErrFull)
}

// WO2: how long names, slots, texts and numbers may be.
func TestReadWordLengths(t *testing.T) {
	n, s, d := strings.Repeat("n", api.MaxName), strings.Repeat("t", api.MaxText), "9223372036854775808"
	wantWord(t, n, nam(n))
	wantWord(t, n[1:]+"9", nam(n[1:]+"9"))
	wantWord(t, "?"+n, slot(n))
	wantWord(t, d, num(d))
	wantWord(t, strings.Repeat("9", 19), num(strings.Repeat("9", 19)))
	wantWord(t, strings.Repeat("0", 800)+d, num(d))
	wantWord(t, "1"+strings.Repeat("0", 18), num("1"+strings.Repeat("0", 18)))
	wantWord(t, `"`+s+`"`, quoted(s))
	wantWord(t, `"`+strings.Repeat(`\"`, 60)+`"`, quoted(strings.Repeat(`"`, 60)))
	wantWord(t, `"`+strings.Repeat(`\\`, 60)+`"`, quoted(strings.Repeat(`\`, 60)))
	for _, long := range []string{
		n + "n", n + "9", n + "_", strings.Repeat("n", api.MaxLine-9), "?" + n + "n", "?" + strings.Repeat("_", 500),
		"1" + d, "01" + d, d + "0", strings.Repeat("0", 700) + strings.Repeat("1", 20), "1" + strings.Repeat("0", 19), strings.Repeat("5", api.MaxLine-9),
		`"` + s + `t"`, `"` + s + ` "`, `"` + s + `\""`, `"` + strings.Repeat(`\\`, 61) + `"`, `"` + strings.Repeat("t", api.MaxLine-9) + `"`,
	} {
		wantWrong(t, long, 0, api.ErrFull)
		wantWrong(t, "a  "+long+" =", 3, api.ErrFull)
		wantWrong(t, "= "+long, 0, api.ErrSyntax)
	}
	// A blank ends a word, and each piece counts for itself.
	wantRead(t, n+" n", []api.Token{nam(n), at(21, nam("n"))}, 0, api.OK)
	wantRead(t, d+" 1", []api.Token{num(d), at(20, num("1"))}, 0, api.OK)
	wantRead(t, d+n, []api.Token{num(d), at(19, nam(n))}, 0, api.OK)
}

// WO2: of one word ErrSyntax comes ahead of ErrFull, wherever it is found.
func TestReadSyntaxAheadOfFull(t *testing.T) {
	long := strings.Repeat("t", api.MaxText+1)
	for _, line := range []string{
		`"` + long, `"` + long + `\`, `"` + long + `\"`, `"` + long + `\a"`, `"` + long + "\x1f\"", `"` + long + "\x7f\"", `"\a` + long + `"`, "\"\n" + long + `"`, `"` + strings.Repeat(`\"`, 61),
		"?9" + long, "?" + strings.Repeat("9", 50), "? " + long,
	} {
		wantWrong(t, line, 0, api.ErrSyntax)
		wantWrong(t, `"" `+line, 3, api.ErrSyntax)
	}
}

// WO2: how many words there may be; one too many is told as what it is where
// it is wrong.
func TestReadWordCount(t *testing.T) {
	full := strings.Repeat("a ", api.MaxWords)
	var ts []api.Token
	for i := range api.MaxWords {
		ts = append(ts, at(2*i, nam("a")))
	}
	last := len(full)
	wantRead(t, full, ts, 0, api.OK)
	wantRead(t, full+strings.Repeat(" ", api.MaxLine-last), ts, 0, api.OK)
	for _, right := range []string{"a", "1", `""`, "?a", "(", "::", "a =", "a a a", `"" "`, "0" + strings.Repeat("0", 30)} {
		wantWrong(t, full+right, last, api.ErrFull)
		wantWrong(t, full+"  "+right, last+2, api.ErrFull)
	}
	for _, wrong := range []string{"=", "?", "\"", `"\a"`, "\t", "& a"} {
		wantWrong(t, full+wrong, last, api.ErrSyntax)
		wantWrong(t, full+" a"+wrong, last+1, api.ErrFull)
	}
	wantWrong(t, full+strings.Repeat("a", api.MaxName+1), last, api.ErrFull)
	wantWrong(t, "= "+full+"a", 0, api.ErrSyntax)
	wantWrong(t, full[:last-2]+"= a", last-2, api.ErrSyntax)
	signs := strings.Repeat("(", api.MaxWords)
	if got, place, err := word.Read(signs); len(got) != api.MaxWords || place != 0 || err != nil {
		t.Errorf("Read of %d signs: got %d words, %d and %v", api.MaxWords, len(got), place, err)
	}
	wantWrong(t, signs+"(", api.MaxWords, api.ErrFull)
	wantWrong(t, strings.Repeat("(", api.MaxLine), api.MaxWords, api.ErrFull)
}

// WO3: by examples.
func TestSpell(t *testing.T) {
	for _, c := range []struct {
		ts   []api.Token
		want string
	}{
		{nil, ""},
		{[]api.Token{}, ""},
		{[]api.Token{nam("a")}, "a"},
		{[]api.Token{nam("a"), sign("=="), quoted("b")}, `a == "b"`},
		{[]api.Token{sign("-"), num("1")}, "- 1"},
		{[]api.Token{sign(":"), sign(":")}, ": :"},
		{[]api.Token{sign("<"), sign("<="), sign("==")}, "< <= =="},
		{[]api.Token{nam("User"), sign("::"), quoted(`"\`)}, `User :: "\"\\"`},
		{[]api.Token{quoted(""), quoted(" "), quoted("a b")}, `"" " " "a b"`},
		{[]api.Token{slot("who"), slot("if"), nam("if"), num("0")}, "?who ?if if 0"},
		// At is left aside, whatever it is.
		{[]api.Token{at(7, nam("a")), at(-1, num("9")), at(math.MinInt, slot("a")), at(math.MaxInt, sign(".")), at(7, quoted("b"))}, `a 9 ?a . "b"`},
	} {
		before := slices.Clone(c.ts)
		wantSpell(t, c.ts, c.want, api.OK)
		if !slices.Equal(c.ts, before) {
			t.Errorf("Spell(%s): what was handed in was written into", shown(before))
		}
	}
}

// spelled has what Read tells of each kind, by another hand than the program's.
var spelled = map[int]*regexp.Regexp{
	api.Name:   regexp.MustCompile(`\A[A-Za-z_][0-9A-Za-z_]{0,19}\z`),
	api.Number: regexp.MustCompile(`\A(0|[1-9][0-9]{0,18})\z`),
	api.Quoted: regexp.MustCompile(`\A[ -~]{0,60}\z`),
	api.Slot:   regexp.MustCompile(`\A[A-Za-z_][0-9A-Za-z_]{0,19}\z`),
	api.Sign:   regexp.MustCompile(`\A(::|==|<=|&&|\|\||[()\[\]{},:.<!+*-])\z`),
}

// wantOne fails unless Spell of that word alone, and beside others, tells it
// where Read does, and else ErrSyntax.
func wantOne(t *testing.T, one api.Token) {
	t.Helper()
	rule := spelled[one.Kind]
	if rule == nil || !rule.MatchString(one.S) {
		wantSpell(t, []api.Token{one}, "", api.ErrSyntax)
		wantSpell(t, []api.Token{nam("a"), one, nam("b")}, "", api.ErrSyntax)
		return
	}
	line := one.S
	switch one.Kind {
	case api.Slot:
		line = "?" + line
	case api.Quoted:
		line = `"` + strings.NewReplacer(`\`, `\\`, `"`, `\"`).Replace(line) + `"`
	}
	wantSpell(t, []api.Token{one}, line, api.OK)
	wantSpell(t, []api.Token{nam("a"), one, nam("b")}, "a "+line+" b", api.OK)
	wantWord(t, line, one)
}

// WO3: which words Read tells: all short ones, the longest ones, and such as
// are too long, of each kind and of kinds that are none.
func TestSpellEachWord(t *testing.T) {
	all := slices.Concat(texts("aZ_09 \"\\?:=<&|-(\x1f\xff", 3), allBytes(), signs)
	for _, c := range []string{"a", "_", "1", "0", "9", `"`, `\`, " ", "~", "(", ":", "\x7f"} {
		for _, count := range []int{18, 19, 20, 21, 59, 60, 61, 62, 120, 898, 899, 900, 901, 1 << 16} {
			all = append(all, strings.Repeat(c, count), "a"+strings.Repeat(c, count-1), "1"+strings.Repeat(c, count-1))
		}
	}
	all = append(all, "a b", "?a", `"a"`, "a ", " a", "-1", "+1", "1 ", " 1", "1a", "a==b", "caf\u00e9", "=>", ">", "!=", ":::", ": :", "<= ", "a\x00", "true", "if")
	for _, s := range all {
		for _, kind := range []int{api.Name, api.Number, api.Quoted, api.Slot, api.Sign, 0, 6, -1, math.MinInt, math.MaxInt, 1<<32 + api.Name} {
			wantOne(t, api.Token{Kind: kind, S: s})
		}
		if t.Failed() {
			return
		}
	}
}

// WO3: how many words and bytes there may be, and which error comes first.
func TestSpellFull(t *testing.T) {
	many := slices.Repeat([]api.Token{nam("a")}, api.MaxWords+1)
	wantSpell(t, many[1:], strings.TrimSuffix(strings.Repeat("a ", api.MaxWords), " "), api.OK)
	wantSpell(t, many, "", api.ErrFull)
	wantSpell(t, slices.Repeat(many, 1000), "", api.ErrFull)
	// Too many words come ahead of a wrong one.
	wantSpell(t, append([]api.Token{num("07")}, many[1:]...), "", api.ErrFull)
	wantSpell(t, append([]api.Token{num("07")}, many[2:]...), "", api.ErrSyntax)
	wantSpell(t, make([]api.Token, api.MaxWords+1), "", api.ErrFull)
	wantSpell(t, make([]api.Token, api.MaxWords), "", api.ErrSyntax)

	n := strings.Repeat("n", api.MaxName)
	row := slices.Repeat([]api.Token{nam(n)}, 42) // 42 names and 41 blanks are 881 bytes
	line := strings.Repeat(n+" ", 42)
	wantSpell(t, append(slices.Clip(row), nam(n[:18])), line+n[:18], api.OK)
	wantSpell(t, append(slices.Clip(row), quoted(n[:16])), line+`"`+n[:16]+`"`, api.OK)
	wantSpell(t, append(slices.Clip(row), quoted(`""""""""`)), line+`"`+strings.Repeat(`\"`, 8)+`"`, api.OK)
	wantSpell(t, append(slices.Clip(row), slot(n[:17])), line+"?"+n[:17], api.OK)
	for _, last := range []api.Token{nam(n[:19]), nam(n), quoted(n[:17]), quoted(`"""""""""`), slot(n[:18]), num("1" + strings.Repeat("0", 18))} {
		wantSpell(t, append(slices.Clip(row), last), "", api.ErrFull)
		wantSpell(t, append([]api.Token{last}, row...), "", api.ErrFull)
	}
	// A wrong word comes ahead of too many bytes, also behind them.
	for _, wrong := range []api.Token{nam(n + "n"), num("07"), quoted("\n"), slot(""), sign("="), {}} {
		wantSpell(t, append(slices.Repeat(row, 5), wrong), "", api.ErrSyntax)
		wantSpell(t, append([]api.Token{wrong}, slices.Repeat(row, 5)...), "", api.ErrSyntax)
	}
	wantSpell(t, slices.Repeat(row, 5), "", api.ErrFull)
	wantSpell(t, slices.Repeat([]api.Token{quoted(strings.Repeat(`\`, api.MaxText))}, api.MaxWords), "", api.ErrFull)
}

// WO3: what is spelled is read as the same words, one blank between each two.
func TestWhatIsSpelledIsRead(t *testing.T) {
	right := 0
	for _, line := range texts("a0 \"\\?:=<(", 5) {
		ts, _, err := word.Read(line)
		if err != nil {
			continue
		}
		right++
		spelt, err := word.Spell(ts)
		again, _, err2 := word.Read(spelt)
		if err != nil || err2 != nil || !slices.Equal(unplaced(again), unplaced(ts)) {
			t.Fatalf("Read(%s) is %v; spelled %s (%v), it is read as %v (%v)", shown(line), ts, shown(spelt), err, again, err2)
		}
		var pieces []string
		for i, one := range again {
			end := len(spelt)
			if i+1 < len(again) {
				end = again[i+1].At - 1
			}
			pieces = append(pieces, spelt[one.At:end])
		}
		if strings.Join(pieces, " ") != spelt {
			t.Fatalf("Spell(%v): got %s", ts, shown(spelt))
		}
	}
	if right < 1000 {
		t.Errorf("only %d lines were right", right)
	}
}

// P2: what comes out shares no memory with what went in, and is told anew.
func TestMemory(t *testing.T) {
	line := strings.Repeat("name 12 7 ?slot == ", 10)
	from := uintptr(unsafe.Pointer(unsafe.StringData(line)))
	ts, _, err := word.Read(line)
	if err != nil {
		t.Fatal(err)
	}
	for _, one := range ts {
		if b := uintptr(unsafe.Pointer(unsafe.StringData(one.S))); b >= from && b < from+uintptr(len(line)) {
			t.Errorf("Read hands out a piece of the line: %v", one)
		}
	}
	before := slices.Clone(ts)
	again, _, _ := word.Read(line)
	for i := range again[:cap(again)] {
		again[:cap(again)][i] = api.Token{Kind: -1}
	}
	if !slices.Equal(ts, before) {
		t.Error("two answers of Read share memory")
	}
	one := nam(strings.Repeat("n", api.MaxName))
	spelt, err := word.Spell([]api.Token{one})
	if err != nil || unsafe.StringData(spelt) == unsafe.StringData(one.S) {
		t.Errorf("Spell hands out what it was given (%v)", err)
	}
}

// P4: what lies behind a list's length is neither read nor written.
func TestBehindTheLength(t *testing.T) {
	memory := []api.Token{nam("a"), num("07"), sign("=")}
	before := slices.Clone(memory)
	wantSpell(t, memory[:1], "a", api.OK)
	wantSpell(t, memory[:0], "", api.OK)
	wantSpell(t, memory[:2], "", api.ErrSyntax)
	if !slices.Equal(memory, before) {
		t.Errorf("Spell wrote into what it was given: %v", memory)
	}
}
