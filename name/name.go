// Package name is layer 1: names as bytes and as texts.
package name

import (
	"cmp"
	"strings"

	"hustings/api"
)

const root = "\x00"

// May reports whether bytes are a name.
func May(n string) bool {
	if len(n) > api.MaxName {
		return false
	}
	at := 0
	for at < len(n) && n[at] != 0 {
		if n[at] > api.MaxLabel {
			return false
		}
		at += 1 + int(n[at])
	}
	return at == len(n)-1
}

// Fold returns the folded name.
func Fold(n string) string {
	if !May(n) {
		return ""
	}
	b := []byte(n)
	for i, c := range b {
		// No length byte is as great as a letter, so all bytes may be taken alike.
		if 'A' <= c && c <= 'Z' {
			b[i] = c + 0x20
		}
	}
	return string(b)
}

// Labels returns the labels of a name, the first one first.
func Labels(n string) []string {
	if !May(n) {
		return nil
	}
	var l []string
	for n != root {
		end := 1 + int(n[0])
		l = append(l, n[1:end])
		n = n[end:]
	}
	return l
}

// Parent returns the name without its first label.
func Parent(n string) (string, bool) {
	if !May(n) || n == root {
		return "", false
	}
	return n[1+int(n[0]):], true
}

// Text returns the text of a name.
func Text(n string) string {
	if n == root {
		return "."
	}
	var b strings.Builder
	for _, l := range Labels(n) {
		for i := range len(l) {
			writeByte(&b, l[i])
		}
		b.WriteByte('.')
	}
	return b.String()
}

func writeByte(b *strings.Builder, c byte) {
	switch {
	case c == '.' || c == '\\':
		b.WriteByte('\\')
		b.WriteByte(c)
	case c < 0x21 || c > 0x7E:
		b.WriteByte('\\')
		b.WriteByte('0' + c/100)
		b.WriteByte('0' + c/10%10)
		b.WriteByte('0' + c%10)
	default:
		b.WriteByte(c)
	}
}

// Same reports whether two names are the same.
func Same(a, b string) bool {
	return May(a) && May(b) && Fold(a) == Fold(b)
}

// Within reports whether a name is within a zone.
func Within(n, zone string) bool {
	if !May(n) || !May(zone) {
		return false
	}
	n, zone = Fold(n), Fold(zone)
	for len(n) > len(zone) {
		n = n[1+int(n[0]):]
	}
	return n == zone
}

// Compare returns -1, 0 or 1 if a name is before another one, the same, or after it.
func Compare(a, b string) int {
	if !May(a) || !May(b) {
		return 0
	}
	x, y := Labels(Fold(a)), Labels(Fold(b))
	for i := 1; i <= len(x) && i <= len(y); i++ {
		if c := strings.Compare(x[len(x)-i], y[len(y)-i]); c != 0 {
			return c
		}
	}
	return cmp.Compare(len(x), len(y))
}

// Join returns the name with these labels.
func Join(l []string) (string, api.Errno) {
	size := len(root)
	for _, x := range l {
		if len(x) == 0 || len(x) > api.MaxLabel {
			return "", api.ErrArg
		}
		size += 1 + len(x)
	}
	if size > api.MaxName {
		return "", api.ErrLong
	}
	b := make([]byte, 0, size)
	for _, x := range l {
		b = append(b, byte(len(x)))
		b = append(b, x...)
	}
	return string(append(b, root...)), api.OK
}
