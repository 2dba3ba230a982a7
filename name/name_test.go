package name_test

import (
	"cmp"
	"slices"
	"strings"
	"testing"

	"wicketgate/api"
	"wicketgate/name"
	"wicketgate/plain"
)

// wantError fails unless err is the error of that number.
func wantError(t *testing.T, call string, err error, want api.Errno) {
	t.Helper()
	if got := plain.Told(err); got != want {
		t.Errorf("%s: error %v, want %v", call, got, want)
	}
	if err != nil && want == api.OK {
		t.Errorf("%s: an error that is not nil, where nothing is wrong", call)
	}
}

// wantText fails unless call tells that text and that error of the input.
func wantText(t *testing.T, what string, call func(string) (string, error), in, want string, wrong api.Errno) {
	t.Helper()
	got, err := call(in)
	wantError(t, what+" of "+shown(in), err, wrong)
	if got != want {
		t.Errorf("%s of %s: got %s, want %s", what, shown(in), shown(got), shown(want))
	}
}

// shown has no more of a text than a message can bear.
func shown(s string) string {
	if len(s) > 140 {
		s = s[:140] + "..."
	}
	return "«" + s + "»"
}

// words gives all texts of at most most bytes, each of them from letters.
func words(letters string, most int) []string {
	all := []string{""}
	for from := 0; most > 0; most-- {
		upTo := len(all)
		for _, w := range all[from:upTo] {
			for i := range len(letters) {
				all = append(all, w+letters[i:i+1])
			}
		}
		from = upTo
	}
	return all
}

// allBytes holds each byte there is, once.
func allBytes() []byte {
	bs := make([]byte, 256)
	for i := range bs {
		bs[i] = byte(i)
	}
	return bs
}

const (
	upper  = "ABCDEFGHIJKLMNOPQRSTUVWXYZ"
	lower  = "abcdefghijklmnopqrstuvwxyz"
	digits = "0123456789"
)

// NA1: which bytes may stand first, and which ones further on.
func TestCheckBytes(t *testing.T) {
	first := upper + lower + "_"
	later := first + digits
	for _, b := range allBytes() {
		one := string([]byte{b})
		for _, c := range []struct{ in, may string }{
			{one, first}, {one + "a", first}, {"a" + one, later}, {"_1" + one + "Z", later},
		} {
			want := api.ErrSyntax
			if strings.IndexByte(c.may, b) >= 0 {
				want = api.OK
			}
			wantError(t, "Check of "+shown(c.in), name.Check(c.in), want)
		}
	}
}

// NA1: lengths, and which error is told where both apply.
func TestCheckLengths(t *testing.T) {
	for _, c := range []struct {
		in   string
		want api.Errno
	}{
		{"", api.ErrSyntax},
		{"_", api.OK},
		{"a_1", api.OK},
		{"1a", api.ErrSyntax},
		{"User::a", api.ErrSyntax},
		{"a b", api.ErrSyntax},
		{"caf\u00e9", api.ErrSyntax},
		{strings.Repeat("a", api.MaxName-1), api.OK},
		{strings.Repeat("a", api.MaxName), api.OK},
		{strings.Repeat("a", api.MaxName+1), api.ErrFull},
		{"_" + strings.Repeat("9", api.MaxName-1), api.OK},
		{"_" + strings.Repeat("9", api.MaxName), api.ErrFull},
		{strings.Repeat("Z", 1<<20), api.ErrFull},
		{strings.Repeat("a", api.MaxName-1) + "-", api.ErrSyntax},
		{strings.Repeat("a", api.MaxName) + "-", api.ErrSyntax},
		{strings.Repeat("a", 1<<20) + " ", api.ErrSyntax},
		{strings.Repeat("1", api.MaxName+1), api.ErrSyntax},
	} {
		wantError(t, "Check of "+shown(c.in), name.Check(c.in), c.want)
	}
}

// NA1, NA2: which bytes a text may have, wherever they stand in it.
func TestQuoteBytes(t *testing.T) {
	for _, b := range allBytes() {
		one := string([]byte{b})
		quoted := one
		if b == '"' || b == '\\' {
			quoted = `\` + one
		}
		for _, around := range [][2]string{{"", ""}, {"a", ""}, {"", "z"}, {"a ", " z"}} {
			in, want, wrong := around[0]+one+around[1], `"`+around[0]+quoted+around[1]+`"`, api.OK
			if b < 32 || b > 126 {
				wantText(t, "Unquote", name.Unquote, want, "", api.ErrSyntax)
				want, wrong = "", api.ErrSyntax
			} else {
				wantText(t, "Unquote", name.Unquote, want, in, api.OK)
			}
			wantText(t, "Quote", name.Quote, in, want, wrong)
		}
	}
}

// NA1, NA2: lengths of a text, and which error is told where both apply.
func TestQuoteLengths(t *testing.T) {
	full := strings.Repeat("a", api.MaxText)
	signs := strings.Repeat(`"`, api.MaxText)
	for _, c := range []struct {
		in, want string
		wrong    api.Errno
	}{
		{"", `""`, api.OK},
		{`a"b\`, `"a\"b\\"`, api.OK},
		{`\\`, `"\\\\"`, api.OK},
		{full[1:], `"` + full[1:] + `"`, api.OK},
		{full, `"` + full + `"`, api.OK},
		{full + "a", "", api.ErrFull},
		{signs, `"` + strings.Repeat(`\"`, api.MaxText) + `"`, api.OK},
		{signs + `"`, "", api.ErrFull},
		{full[1:] + "\x1f", "", api.ErrSyntax},
		{full[1:] + "\x7f", "", api.ErrSyntax},
		{full + "\x1f", "", api.ErrFull},
		{"\x7f" + full, "", api.ErrFull},
		{"caf\u00e9", "", api.ErrSyntax},
		{strings.Repeat("\n", 1<<20), "", api.ErrFull},
	} {
		wantText(t, "Quote", name.Quote, c.in, c.want, c.wrong)
	}
}

// NA2: what Unquote tells at the edges, and of what is no quoted text.
func TestUnquoteEdges(t *testing.T) {
	full := strings.Repeat("a", api.MaxText)
	signs := strings.Repeat(`\\`, api.MaxText)
	for _, c := range []struct {
		in, want string
		wrong    api.Errno
	}{
		{`""`, "", api.OK},
		{`"a\"b"`, `a"b`, api.OK},
		{`"` + full + `"`, full, api.OK},
		{`"` + signs + `"`, strings.Repeat(`\`, api.MaxText), api.OK},
		{`"` + full + `a"`, "", api.ErrSyntax},
		{`"` + signs + `\\"`, "", api.ErrSyntax},
		{`"` + strings.Repeat("a", 1<<20) + `"`, "", api.ErrSyntax},
		{"", "", api.ErrSyntax},
		{`"`, "", api.ErrSyntax},
		{"a", "", api.ErrSyntax},
		{"ab", "", api.ErrSyntax},
		{`"a`, "", api.ErrSyntax},
		{`a"`, "", api.ErrSyntax},
		{`'a'`, "", api.ErrSyntax},
		{`"\"`, "", api.ErrSyntax},
		{`"a\\\"`, "", api.ErrSyntax},
		{`"a"b"`, "", api.ErrSyntax},
		{`"\a"`, "", api.ErrSyntax},
		{`"\n"`, "", api.ErrSyntax},
		{` "a"`, "", api.ErrSyntax},
		{`"a" `, "", api.ErrSyntax},
		{`"a"""`, "", api.ErrSyntax},
	} {
		wantText(t, "Unquote", name.Unquote, c.in, c.want, c.wrong)
	}
}

// NA2: of all short texts, Unquote takes those that Quote writes, and no other.
func TestUnquoteTakesJustWhatQuoteWrites(t *testing.T) {
	const letters = "\"\\a\x1f ~\x7f"
	written := map[string]string{}
	escape := strings.NewReplacer(`"`, `\"`, `\`, `\\`)
	for _, text := range words("\"\\a ~", 4) {
		quoted := `"` + escape.Replace(text) + `"`
		wantText(t, "Quote", name.Quote, text, quoted, api.OK)
		written[quoted] = text
	}
	for _, s := range words(letters, 6) {
		text, may := written[s]
		wrong := api.ErrSyntax
		if may {
			wrong = api.OK
		}
		wantText(t, "Unquote", name.Unquote, s, text, wrong)
	}
}

// NA3: what is written of a uid, and that the Type's error comes first.
func TestWrite(t *testing.T) {
	longName, longText := strings.Repeat("N", api.MaxName+1), strings.Repeat("t", api.MaxText+1)
	for _, c := range []struct {
		kind, id, want string
		wrong          api.Errno
	}{
		{"User", "a b", `User::"a b"`, api.OK},
		{"_", "", `_::""`, api.OK},
		{"A", `"\`, `A::"\"\\"`, api.OK},
		{"A", "::", `A::"::"`, api.OK},
		{longName[1:], longText[1:], longName[1:] + `::"` + longText[1:] + `"`, api.OK},
		{"", "", "", api.ErrSyntax},
		{"1A", "a", "", api.ErrSyntax},
		{"A::B", "a", "", api.ErrSyntax},
		{longName, "a", "", api.ErrFull},
		{longName + "-", "a", "", api.ErrSyntax},
		{"A", "\x1f", "", api.ErrSyntax},
		{"A", "\x7f", "", api.ErrSyntax},
		{"A", longText, "", api.ErrFull},
		{"A", longText + "\n", "", api.ErrFull},
		{"", longText, "", api.ErrSyntax},
		{longName, "\n", "", api.ErrFull},
	} {
		write := func(id string) (string, error) { return name.Write(api.Uid{Type: c.kind, Id: id}) }
		wantText(t, "Write with Type "+shown(c.kind), write, c.id, c.want, c.wrong)
	}
}

// wantUid fails unless Read tells that uid, or ErrSyntax and none.
func wantUid(t *testing.T, in string, want api.Uid, may bool) {
	t.Helper()
	wrong := api.ErrSyntax
	if may {
		wrong = api.OK
	}
	got, err := name.Read(in)
	wantError(t, "Read of "+shown(in), err, wrong)
	if got != want {
		t.Errorf("Read of %s: got %q, want %q", shown(in), got, want)
	}
}

// NA3: what is read as a uid at the edges, and what is not.
func TestReadEdges(t *testing.T) {
	longName, longText := strings.Repeat("N", api.MaxName+1), strings.Repeat("t", api.MaxText+1)
	for _, u := range []api.Uid{
		{Type: "User", Id: "a"}, {Type: "_", Id: ""}, {Type: "A", Id: `::"\ ~`},
		{Type: longName[1:], Id: longText[1:]},
	} {
		s, err := name.Write(u)
		wantError(t, "Write", err, api.OK)
		wantUid(t, s, u, true)
	}
	for _, s := range []string{
		"", "::", `::""`, `A`, `A::`, `A::"`, `A::a`, `A:"a"`, `A"a"`, `A:::"a"`, `A::::"a"`, `A::B::"a"`,
		`1::"a"`, ` A::"a"`, `A ::"a"`, `A:: "a"`, `A::"a" `, `A::"a"b"`, `A::"\a"`, `A::"\"`, "A::\"\x1f\"",
		"A::\"\x7f\"", `a-b::"a"`, `"A"::"a"`, longName + `::"a"`, `A::"` + longText + `"`,
		longName + `::"` + longText + `"`, strings.Repeat("A", 1<<20), strings.Repeat(":", 1<<20),
	} {
		wantUid(t, s, api.Uid{}, false)
	}
}

// NA3: of all short texts, Read takes those that Write writes, and no other.
func TestReadTakesJustWhatWriteWrites(t *testing.T) {
	written := map[string]api.Uid{}
	for _, kind := range words("A1:", 4) {
		for _, id := range words("A1:\"\\", 3) {
			u := api.Uid{Type: kind, Id: id}
			if s, err := name.Write(u); err == nil {
				written[s] = u
			}
		}
	}
	for _, s := range words("A1:\"\\", 8) {
		u, may := written[s]
		wantUid(t, s, u, may)
	}
}

// NA3: uids in their order, of such as may be and of such as may not.
func TestCompare(t *testing.T) {
	rising := []api.Uid{
		{},
		{Id: "\x00"},
		{Id: "z"},
		{Type: "\x00", Id: ""},
		{Type: "1", Id: "z"},
		{Type: "A", Id: ""},
		{Type: "A", Id: "\n"},
		{Type: "A", Id: "B"},
		{Type: "A", Id: "B\x00"},
		{Type: "A", Id: "BA"},
		{Type: "A", Id: "C"},
		{Type: "A", Id: "a"},
		{Type: "A", Id: "\u00e9"},
		{Type: "A", Id: "\xff"},
		{Type: "A", Id: strings.Repeat("\xff", 100)},
		{Type: "AB", Id: ""},
		{Type: "B", Id: "a"},
		{Type: "_", Id: "a"},
		{Type: "a", Id: "A"},
		{Type: strings.Repeat("a", 100), Id: "A"},
		{Type: "b", Id: ""},
		{Type: "\x80", Id: ""},
		{Type: "\xff", Id: "a"},
	}
	for i, a := range rising {
		for j, b := range rising {
			if got, want := name.Compare(a, b), cmp.Compare(i, j); got != want {
				t.Errorf("Compare of %q and %q: got %d, want %d", a, b, got, want)
			}
		}
	}
}

// NA3: Compare is an order that sorts by each byte of the Types, then of the Ids.
func TestCompareSorts(t *testing.T) {
	var uids []api.Uid
	for _, kind := range words("Ab\xff", 2) {
		for _, id := range words("\x00Ab\xff", 2) {
			uids = append(uids, api.Uid{Type: kind, Id: id})
		}
	}
	for _, a := range uids {
		for _, b := range uids {
			want := slices.Compare([]byte(a.Type), []byte(b.Type))
			if want == 0 {
				want = slices.Compare([]byte(a.Id), []byte(b.Id))
			}
			if got := name.Compare(a, b); got != want {
				t.Errorf("Compare of %q and %q: got %d, want %d", a, b, got, want)
			}
		}
	}
}
