package like_test

import (
	"regexp"
	"strings"
	"testing"
	"unsafe"

	"wicketgate/api"
	"wicketgate/like"
	"wicketgate/plain"
)

// wantMatch fails unless Match tells that answer and that error.
func wantMatch(t *testing.T, p, s string, want bool, wrong api.Errno) {
	t.Helper()
	got, err := like.Match(p, s)
	if got != want || plain.Told(err) != wrong {
		t.Errorf("Match(%s, %s): got %v and %v, want %v and %v", shown(p), shown(s), got, err, want, wrong)
	}
}

// wantText fails unless call tells that text and that error of the input.
func wantText(t *testing.T, what string, call func(string) (string, error), in, want string, wrong api.Errno) {
	t.Helper()
	got, err := call(in)
	if got != want || plain.Told(err) != wrong {
		t.Errorf("%s(%s): got %s and %v, want %s and %v", what, shown(in), shown(got), err, shown(want), wrong)
	}
}

// shown has no more of a text than a message can bear.
func shown(s string) string {
	if len(s) > 140 {
		s = s[:140] + "..."
	}
	return "«" + s + "»"
}

// words gives all texts of at most most bytes, each of them from letters.
func words(letters string, most int) []string {
	all := []string{""}
	for from := 0; most > 0; most-- {
		upTo := len(all)
		for _, w := range all[from:upTo] {
			for i := range len(letters) {
				all = append(all, w+letters[i:i+1])
			}
		}
		from = upTo
	}
	return all
}

// sure is what a call tells of a text that has no error.
func sure(t *testing.T, what string, call func(string) (string, error), in string) string {
	t.Helper()
	out, err := call(in)
	if err != nil {
		t.Fatalf("%s(%s): error %v", what, shown(in), err)
	}
	return out
}

// parts splits a pattern from its beginning, by another hand than the program's.
var parts = regexp.MustCompile(`(?s)\\\*|.`)

// ruled is the same pattern, as the library's regexp has it.
func ruled(p string) *regexp.Regexp {
	rule := parts.ReplaceAllStringFunc(p, func(part string) string {
		switch part {
		case `\*`:
			return `\*`
		case `*`:
			return `.*`
		}
		return regexp.QuoteMeta(part)
	})
	return regexp.MustCompile(`(?s)\A` + rule + `\z`)
}

// LI1: by examples.
func TestMatch(t *testing.T) {
	for _, c := range []struct {
		p, s string
		want bool
	}{
		{"", "", true},
		{"", "a", false},
		{"a", "", false},
		{"a", "a", true},
		{"a", "A", false},
		{"a", "aa", false},
		{"ab", "a", false},
		{"*", "", true},
		{"*", "*", true},
		{"*", ` any "thing" \ ~`, true},
		{"**", "", true},
		{"a*", "a", true},
		{"a*", "ba", false},
		{"*a", "ba", true},
		{"*a", "ab", false},
		{"a*c", "abbc", true},
		{"a*c", "ac", true},
		{"a*c", "acb", false},
		{"a*a", "a", false},
		{"*ab*", "aab", true},
		{"*ab*ba*", "aba", false},
		{"*ab*ba*", "abba", true},
		{"a*b*c", "a c b c", true},
		{"a*b*c", "acb", false},
		// A guarded * stands for * alone.
		{`a\*`, "a*", true},
		{`a\*`, "ab", false},
		{`a\*`, `a\*`, false},
		{`a\*`, `a\`, false},
		{`\**`, "*", true},
		{`\**`, "*a", true},
		{`\**`, "a*", false},
		{`*\*`, "a*", true},
		{`*\*`, "*a", false},
		{`\*\*`, "**", true},
		{`\*\*`, "*", false},
		// A \ without a * behind it stands for itself.
		{`\`, `\`, true},
		{`\`, "", false},
		{`\\`, `\\`, true},
		{`\\`, `\`, false},
		{`\a`, `\a`, true},
		{`\a`, "a", false},
		{`*\`, `a\`, true},
		// Of two, the one behind guards the *, the other one is itself.
		{`\\*`, `\*`, true},
		{`\\*`, `\`, false},
		{`\\*`, `\\`, false},
		{`\\*`, `\a`, false},
		{`\\**`, `\*a`, true},
		{`\\\*`, `\\*`, true},
		// Nothing else is of a kind of its own.
		{"?", "a", false},
		{".", "a", false},
		{"[a]", "a", false},
		{`"`, `"`, true},
		{" ", "", false},
	} {
		wantMatch(t, c.p, c.s, c.want, api.OK)
	}
}

// LI1: of all short patterns and texts.
func TestMatchHeldAgainstRegexp(t *testing.T) {
	for _, c := range []struct {
		letters   string
		pat, text int
	}{
		{`*\a`, 5, 4}, {`*ab`, 5, 5}, {`*\ab`, 4, 4},
	} {
		texts := words(c.letters, c.text)
		for _, p := range words(c.letters, c.pat) {
			rule := ruled(p)
			for _, s := range texts {
				wantMatch(t, p, s, rule.MatchString(s), api.OK)
			}
		}
	}
}

// LI1: each byte that may be stands for itself, and for no other; * stands for
// it, too; what may not be is told, wherever it stands.
func TestBytes(t *testing.T) {
	for b := range 256 {
		one := string([]byte{byte(b)})
		if b < 32 || b > 126 {
			for _, in := range []string{one, "a" + one, one + "a", "*" + one + "*", `\` + one} {
				wantMatch(t, in, "a", false, api.ErrSyntax)
				wantMatch(t, "*", in, false, api.ErrSyntax)
				wantText(t, "Just", like.Just, in, "", api.ErrSyntax)
				wantText(t, "Short", like.Short, in, "", api.ErrSyntax)
			}
			continue
		}
		wantMatch(t, "*", one, true, api.OK)
		wantMatch(t, "a*z", "a"+one+"z", true, api.OK)
		for c := 32; c <= 126; c++ {
			other := string([]byte{byte(c)})
			wantMatch(t, one, other, b == c || one == "*", api.OK)
			wantMatch(t, "a"+one+"z", "a"+other+"z", b == c || one == "*", api.OK)
		}
		if one != "*" {
			wantText(t, "Just", like.Just, one, one, api.OK)
		}
		wantText(t, "Short", like.Short, one, one, api.OK)
	}
}

// LI1: which error is told, where several apply.
func TestMatchErrors(t *testing.T) {
	full := strings.Repeat("a", api.MaxText)
	stars := strings.Repeat("*", api.MaxText)
	for _, c := range []struct {
		p, s  string
		want  bool
		wrong api.Errno
	}{
		{full, full, true, api.OK},
		{stars, full, true, api.OK},
		{stars, "", true, api.OK},
		{full[1:], full, false, api.OK},
		{full + "a", "a", false, api.ErrFull},
		{stars + "*", "a", false, api.ErrFull},
		{"*", full + "a", false, api.ErrFull},
		{full + "a", full + "a", false, api.ErrFull},
		{"\x1f", "a", false, api.ErrSyntax},
		{"*", "\x7f", false, api.ErrSyntax},
		{"*", "\n", false, api.ErrSyntax},
		{"*", "caf\u00e9", false, api.ErrSyntax},
		{"\n", "\n", false, api.ErrSyntax},
		// Of one of them the length comes first.
		{full + "\n", "a", false, api.ErrFull},
		{"\n" + full, "a", false, api.ErrFull},
		{"*", full + "\n", false, api.ErrFull},
		{full[1:] + "\n", "a", false, api.ErrSyntax},
		{"*", full[1:] + "\n", false, api.ErrSyntax},
		// All of the pattern comes ahead of the text.
		{"\n", full + "a", false, api.ErrSyntax},
		{full + "a", "\n", false, api.ErrFull},
		// The bytes of the pattern count, not those that it stands for.
		{strings.Repeat(`\*`, api.MaxText/2), strings.Repeat("*", api.MaxText/2), true, api.OK},
		{strings.Repeat(`\*`, api.MaxText/2) + "*", "", false, api.ErrFull},
		// What cannot fit is an error all the same.
		{"b", "a\n", false, api.ErrSyntax},
		{"", full + "a", false, api.ErrFull},
		{strings.Repeat("\xff", 1<<20), "", false, api.ErrFull},
		{"", strings.Repeat("\xff", 1<<20), false, api.ErrFull},
	} {
		wantMatch(t, c.p, c.s, c.want, c.wrong)
	}
}

// LI1, P1: many stars take no time without end.
func TestMatchEnds(t *testing.T) {
	text := strings.Repeat("a", api.MaxText)
	for range 100 {
		for _, p := range []string{
			strings.Repeat("*a", api.MaxText/2-1) + "*b",
			strings.Repeat("a*", api.MaxText/2-1) + "b",
			strings.Repeat("**a", api.MaxText/3-1) + "b**",
		} {
			wantMatch(t, p, text, false, api.OK)
			wantMatch(t, p, text[1:]+"b", true, api.OK)
		}
	}
}

// LI2: by examples, and the lengths.
func TestJust(t *testing.T) {
	full := strings.Repeat("a", api.MaxText)
	half := strings.Repeat("*", api.MaxText/2)
	guarded := strings.Repeat(`\*`, api.MaxText/2)
	for _, c := range []struct {
		in, want string
		wrong    api.Errno
	}{
		{"", "", api.OK},
		{"a*b", `a\*b`, api.OK},
		{"*", `\*`, api.OK},
		{"**", `\*\*`, api.OK},
		{`\`, `\`, api.OK},
		{`\*`, `\\*`, api.OK},
		{`\\*\`, `\\\*\`, api.OK},
		{`a"b c`, `a"b c`, api.OK},
		{full, full, api.OK},
		{full + "a", "", api.ErrFull},
		{half, guarded, api.OK},
		{half + "*", "", api.ErrFull},
		{half[1:] + "ab", guarded[2:] + "ab", api.OK},
		{half[1:] + "abc", "", api.ErrFull},
		{"*" + full[2:], `\*` + full[2:], api.OK},
		{"*" + full[1:], "", api.ErrFull},
		{full[1:] + "*", "", api.ErrFull},
		{strings.Repeat("*", api.MaxText), "", api.ErrFull},
		// A byte that may not be comes ahead of the length that would be.
		{half + "*\n", "", api.ErrSyntax},
		{"\x7f" + full[1:], "", api.ErrSyntax},
		{"*" + full[2:] + "\n", "", api.ErrSyntax},
		{full + "\n", "", api.ErrFull},
		{strings.Repeat("\n", 1<<20), "", api.ErrFull},
	} {
		wantText(t, "Just", like.Just, c.in, c.want, c.wrong)
	}
}

// LI2: what Just tells stands for its text, and for that alone.
func TestJustStandsForOne(t *testing.T) {
	texts := words(`*\a`, 5)
	for _, s := range texts {
		p := sure(t, "Just", like.Just, s)
		if want := strings.ReplaceAll(s, "*", `\*`); p != want {
			t.Errorf("Just(%s): got %s, want %s", shown(s), shown(p), shown(want))
		}
		for _, other := range texts {
			wantMatch(t, p, other, s == other, api.OK)
		}
	}
}

// LI2: by examples, and the lengths.
func TestShort(t *testing.T) {
	full := strings.Repeat("a", api.MaxText)
	stars := strings.Repeat("*", api.MaxText)
	guarded := strings.Repeat(`\*`, api.MaxText/2)
	for _, c := range []struct {
		in, want string
		wrong    api.Errno
	}{
		{"", "", api.OK},
		{"a", "a", api.OK},
		{"aa", "aa", api.OK},
		{"*", "*", api.OK},
		{"**", "*", api.OK},
		{"***a**b*", "*a*b*", api.OK},
		{`a**\**`, `a*\**`, api.OK},
		{`\**`, `\**`, api.OK},
		{`\***`, `\**`, api.OK},
		{`\*\*`, `\*\*`, api.OK},
		{`*\*`, `*\*`, api.OK},
		{`**\*\***`, `*\*\**`, api.OK},
		{`\`, `\`, api.OK},
		{`**\`, `*\`, api.OK},
		{`\\**`, `\\**`, api.OK},
		{`\\***`, `\\**`, api.OK},
		{`\\\\`, `\\\\`, api.OK},
		{full, full, api.OK},
		{stars, "*", api.OK},
		{guarded, guarded, api.OK},
		// It is the pattern that may not be longer, not what is told.
		{stars + "*", "", api.ErrFull},
		{full + "a", "", api.ErrFull},
		{stars + "\n", "", api.ErrFull},
		{stars[1:] + "\n", "", api.ErrSyntax},
		{"*\x1f*", "", api.ErrSyntax},
		{strings.Repeat("*", 1<<20), "", api.ErrFull},
	} {
		wantText(t, "Short", like.Short, c.in, c.want, c.wrong)
	}
}

// runs are unguarded stars, one behind the other; what is ahead of them is kept.
var runs = regexp.MustCompile(`(\\\*)|\*+`)

// LI2: of all short patterns: what Short tells stands for the same, is itself
// as short as can be, and has all else as it was.
func TestShortStandsForTheSame(t *testing.T) {
	texts := words(`*\a`, 4)
	for _, p := range words(`*\a`, 7) {
		want := runs.ReplaceAllStringFunc(p, func(part string) string {
			if part[0] == '*' {
				return "*"
			}
			return part
		})
		short := sure(t, "Short", like.Short, p)
		if short != want {
			t.Errorf("Short(%s): got %s, want %s", shown(p), shown(short), shown(want))
		}
		wantText(t, "Short", like.Short, short, short, api.OK)
		for _, s := range texts {
			was, _ := like.Match(p, s)
			wantMatch(t, short, s, was, api.OK)
		}
	}
}

// P2: what comes out shares no memory with what went in.
func TestMemory(t *testing.T) {
	for what, call := range map[string]func(string) (string, error){"Just": like.Just, "Short": like.Short} {
		in := strings.Repeat("ab", 20)
		out := sure(t, what, call, in)
		if unsafe.StringData(in) == unsafe.StringData(out) {
			t.Errorf("%s hands out what it was given", what)
		}
	}
}

// wrongOf is what is told of a short text.
func wrongOf(s string) api.Errno {
	for i := range len(s) {
		if s[i] < 32 || s[i] > 126 {
			return api.ErrSyntax
		}
	}
	return api.OK
}

// P1: of rubbish an error is told, and nothing else with it.
func TestRubbish(t *testing.T) {
	all := words("*\\\x00\xff", 4)
	for _, p := range all {
		if wrongOf(p) != api.OK {
			wantText(t, "Just", like.Just, p, "", api.ErrSyntax)
			wantText(t, "Short", like.Short, p, "", api.ErrSyntax)
		}
		for _, s := range all {
			if wrongOf(p) != api.OK || wrongOf(s) != api.OK {
				wantMatch(t, p, s, false, api.ErrSyntax)
			}
		}
	}
}
