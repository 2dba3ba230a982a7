// Package name has names and texts.
package name

import (
	"strings"

	"wicketgate/api"
)

// Check tells if it is a name: nil, ErrSyntax where it is none, or ErrFull
// where it is too long.
func Check(s string) error {
	if !isName(s) {
		return api.ErrSyntax
	}
	if len(s) > api.MaxName {
		return api.ErrFull
	}
	return nil
}

// Quote tells a text between quotes: ErrFull where it is too long, ErrSyntax
// where a byte of it may not be.
func Quote(s string) (string, error) {
	// The length is asked first: a long text with a wrong byte is ErrFull.
	if len(s) > api.MaxText {
		return "", api.ErrFull
	}
	quoted := []byte{'"'}
	for i := range len(s) {
		if !isTextByte(s[i]) {
			return "", api.ErrSyntax
		}
		if isGuarded(s[i]) {
			quoted = append(quoted, '\\')
		}
		quoted = append(quoted, s[i])
	}
	return string(append(quoted, '"')), nil
}

// Unquote tells what was quoted: ErrSyntax where no text has that Quote.
func Unquote(s string) (string, error) {
	text := strip(s)
	// strip does not judge; asking Quote keeps the two from drifting apart.
	quoted, err := Quote(text)
	if err != nil || quoted != s {
		return "", api.ErrSyntax
	}
	return text, nil
}

// Write tells a uid's text: ErrSyntax or ErrFull of its Type, then of its Id.
func Write(u api.Uid) (string, error) {
	if err := Check(u.Type); err != nil {
		return "", err
	}
	quoted, err := Quote(u.Id)
	if err != nil {
		return "", err
	}
	return u.Type + between + quoted, nil
}

// Read tells the uid of a text: ErrSyntax where no uid is written so.
func Read(s string) (api.Uid, error) {
	// No name has a colon in it, so the first place that fits is the right one.
	kind, quoted, found := strings.Cut(s, between)
	if !found || Check(kind) != nil {
		return api.Uid{}, api.ErrSyntax
	}
	id, err := Unquote(quoted)
	if err != nil {
		return api.Uid{}, err
	}
	// A piece of s would keep the whole of it alive.
	return api.Uid{Type: strings.Clone(kind), Id: id}, nil
}

// Compare tells which one is ahead: -1 a, 1 b, 0 where they are the same.
func Compare(a, b api.Uid) int {
	if order := strings.Compare(a.Type, b.Type); order != 0 {
		return order
	}
	return strings.Compare(a.Id, b.Id)
}

// between stands between the type and the id of a written uid.
const between = "::"

// isName leaves the length aside, which has an error of its own.
func isName(s string) bool {
	for i := range len(s) {
		if !isLetter(s[i]) && (i == 0 || !isDigit(s[i])) {
			return false
		}
	}
	return s != ""
}

// isLetter counts _ as a letter, since a name may have it wherever it has one.
func isLetter(c byte) bool {
	return c >= 'A' && c <= 'Z' || c >= 'a' && c <= 'z' || c == '_'
}

func isDigit(c byte) bool {
	return c >= '0' && c <= '9'
}

func isTextByte(c byte) bool {
	return c >= 32 && c <= 126
}

// isGuarded tells if a \ must stand ahead of it between quotes.
func isGuarded(c byte) bool {
	return c == '"' || c == '\\'
}

// strip drops the first and the last byte, and each \ that guards a byte. Of
// what is no quoted text it tells something all the same: a \ at the end
// takes the last byte with it, which is why no index can run out.
func strip(s string) string {
	var text []byte
	for i := 1; i < len(s)-1; i++ {
		if s[i] == '\\' {
			i++
		}
		text = append(text, s[i])
	}
	return string(text)
}
