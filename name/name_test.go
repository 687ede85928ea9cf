package name_test

import (
	"math/rand"
	"reflect"
	"sort"
	"strings"
	"testing"

	"hustings/api"
	"hustings/name"
)

// wire makes a name's bytes of labels, without the package under test.
func wire(labels ...string) string {
	var b strings.Builder
	for _, l := range labels {
		b.WriteByte(byte(len(l)))
		b.WriteString(l)
	}
	return b.String() + "\x00"
}

func labelsOf(n int, size int) []string {
	var l []string
	for range n {
		l = append(l, strings.Repeat("a", size))
	}
	return l
}

// longest has 255 bytes.
func longest() []string {
	return append(labelsOf(3, 63), strings.Repeat("b", 61))
}

func randomLabel(r *rand.Rand) string {
	const near = "aAbBzZ[`@{.\\ 0-\x00\x21\x20\x7e\x7f\xff\xc3"
	b := make([]byte, 1+r.Intn(4))
	for i := range b {
		if r.Intn(4) == 0 {
			b[i] = byte(r.Intn(256))
		} else {
			b[i] = near[r.Intn(len(near))]
		}
	}
	return string(b)
}

func randomLabels(r *rand.Rand) []string {
	var l []string
	for range r.Intn(5) {
		l = append(l, randomLabel(r))
	}
	return l
}

func fold(s string) string {
	return string(foldBytes([]byte(s)))
}

func foldBytes(b []byte) []byte {
	c := append([]byte(nil), b...)
	for i := range c {
		if c[i] >= 0x41 && c[i] <= 0x5A {
			c[i] += 0x20
		}
	}
	return c
}

func foldLabels(l []string) []string {
	out := make([]string, len(l))
	for i, x := range l {
		out[i] = string(foldBytes([]byte(x)))
	}
	return out
}

func swapCase(r *rand.Rand, l []string) []string {
	out := make([]string, len(l))
	for i, x := range l {
		b := []byte(x)
		for j, c := range b {
			switch {
			case r.Intn(2) == 0:
			case c >= 'a' && c <= 'z':
				b[j] -= 0x20
			case c >= 'A' && c <= 'Z':
				b[j] += 0x20
			}
		}
		out[i] = string(b)
	}
	return out
}

func bad() []string {
	return []string{
		"", "\x01", "\x01a", "\x02a\x00", "\x00\x00", "\x01a\x00\x00", "\x01a\x00b", "a", "\x00a",
		"\x40" + strings.Repeat("a", 64) + "\x00", "\xC0\x00", "\x80\x00", "\x3f" + strings.Repeat("a", 62) + "\x00",
		wire(append(labelsOf(3, 63), strings.Repeat("b", 62))...), strings.Repeat("\x01a", 127) + "\x01a\x00",
		strings.Repeat("\x01a", 128), strings.Repeat("\x01a", 127),
	}
}

// P1.1: which bytes are a name.
func TestMay(t *testing.T) {
	good := []string{"\x00", wire("www", "Ex"), wire(strings.Repeat("x", 63)), wire(longest()...), strings.Repeat("\x01a", 127) + "\x00", "\x01\x00\x00", "\x02\xC0\xFF\x00"}
	for _, n := range good {
		if !name.May(n) {
			t.Errorf("May(%q): false", n)
		}
	}
	if n := wire(longest()...); len(n) != 255 {
		t.Fatal(len(n))
	}
	for _, n := range bad() {
		if name.May(n) {
			t.Errorf("May(%q): true", n)
		}
	}
}

// P1.1: bytes that are no name have nothing.
func TestNoName(t *testing.T) {
	for _, n := range bad() {
		if name.Fold(n) != "" || len(name.Labels(n)) != 0 || name.Text(n) != "" {
			t.Errorf("%q: %q %q %q", n, name.Fold(n), name.Labels(n), name.Text(n))
		}
		if p, is := name.Parent(n); is || p != "" {
			t.Errorf("Parent(%q): %q %v", n, p, is)
		}
		for _, o := range []string{n, "\x00", wire("a")} {
			if name.Same(n, o) || name.Same(o, n) || name.Within(n, o) || name.Within(o, n) || name.Compare(n, o) != 0 || name.Compare(o, n) != 0 {
				t.Errorf("%q and %q have something", n, o)
			}
		}
	}
}

// P1.1: the parts of a name, by the chapter's example.
func TestParts(t *testing.T) {
	n := "\x03\x77\x77\x77\x02\x45\x78\x00"
	if f := name.Fold(n); f != "\x03www\x02ex\x00" {
		t.Errorf("%q", f)
	}
	if l := name.Labels(n); !reflect.DeepEqual(l, []string{"www", "Ex"}) {
		t.Errorf("%q", l)
	}
	if p, is := name.Parent(n); !is || p != "\x02Ex\x00" {
		t.Errorf("%q %v", p, is)
	}
	if p, is := name.Parent("\x01a\x00"); !is || p != "\x00" {
		t.Errorf("%q %v", p, is)
	}
	if p, is := name.Parent("\x00"); is || p != "" {
		t.Errorf("%q %v", p, is)
	}
	if s := name.Text(n); s != "www.Ex." {
		t.Errorf("%q", s)
	}
	if !name.Within(n, "\x02ex\x00") || !name.Within(n, n) || !name.Within(n, "\x00") || name.Within("\x02ex\x00", n) || name.Within(n, "\x01x\x00") {
		t.Error("within")
	}
	if l := name.Labels("\x00"); len(l) != 0 {
		t.Errorf("%q", l)
	}
	if f := name.Fold("\x04@AZ[\x04`az{\x00"); f != "\x04@az[\x04`az{\x00" {
		t.Errorf("%q", f)
	}
}

// P1.1: a zone is within by labels, not by bytes.
func TestWithinLabels(t *testing.T) {
	for _, x := range []struct {
		n, zone string
		want    bool
	}{
		{wire("aex"), wire("ex"), false},
		{wire("a", "ex"), wire("ex"), true},
		{wire("ex", "a"), wire("ex"), false},
		{wire("b", "a", "EX"), wire("A", "ex"), true},
		{wire("a\x02ex"), wire("ex"), false},
		{wire("\x01a"), wire("a"), false},
		{"\x00", "\x00", true},
		{"\x00", wire("a"), false},
	} {
		if got := name.Within(x.n, x.zone); got != x.want {
			t.Errorf("Within(%q, %q): %v", x.n, x.zone, got)
		}
	}
}

// P1.1: how bytes are written in a text.
func TestText(t *testing.T) {
	for n, want := range map[string]string{
		"\x00": ".", wire("a.b"): "a\\.b.", wire("a b"): "a\\032b.", wire("\x00\x20!~\x7f\xff"): "\\000\\032!~\\127\\255.",
		wire("\\", "9"): "\\\\.9.", wire("\"();@$"): "\"();@$.", wire("\x09"): "\\009.", wire("\xc3\xa9"): "\\195\\169.",
	} {
		if s := name.Text(n); s != want {
			t.Errorf("Text(%q): %q, not %q", n, s, want)
		}
		if back, e := name.Parse(want); e != api.OK || back != n {
			t.Errorf("Parse(%q): %q %v", want, back, e)
		}
	}
}

// P1.3: texts that are parsed, in all the ways the document allows.
func TestParse(t *testing.T) {
	for s, want := range map[string]string{
		".": "\x00", "ex": wire("ex"), "ex.": wire("ex"), "www.Ex.": wire("www", "Ex"), "www.Ex": wire("www", "Ex"),
		"a\\.b.": wire("a.b"), "a\\.b\\.": wire("a.b."), "a\\032b.": wire("a b"), "\\000": wire("\x00"), "\\255.": wire("\xff"),
		"\\a\\!\\~\\\\": wire("a!~\\"), "\\065\\0660": wire("AB0"), "\\046.": wire("."), "\\092": wire("\\"), "a.\\.": wire("a", "."),
		strings.Repeat("x", 63): wire(strings.Repeat("x", 63)), strings.Repeat("\\120", 63): wire(strings.Repeat("x", 63)),
		strings.Join(longest(), "."): wire(longest()...), strings.Repeat("a.", 127): wire(labelsOf(127, 1)...),
	} {
		if n, e := name.Parse(s); e != api.OK || n != want {
			t.Errorf("Parse(%q): %q %v", s, n, e)
		}
	}
}

// P1.3: texts that are none; that is said before a length.
func TestParseForm(t *testing.T) {
	long := strings.Repeat("x", 64)
	for _, s := range []string{
		"", "..", ".a", "a..b", "a..", "a\\256b", "a\\25", "a\\2", "a\\", "a\\25.", "a\\2x5", "a\\25x", "a\\999", "a b", " ", " a", "a ", "a\t", "a\n", "\x00", "a\x7f",
		"é", "a\\é", "\\ ", "\\\x7f", "\\\t", "\xff", "a\x80", "\u4e00", long + "..", long + ". ", long + "\\", long + ".\\256", strings.Repeat("a.", 128) + ".",
		"\\1.5", "\\.\\", "\\25\\1", "\\300",
	} {
		if n, e := name.Parse(s); e != api.ErrForm || n != "" {
			t.Errorf("Parse(%q): %q %v", s, n, e)
		}
	}
}

// P1.3: texts that are too long.
func TestParseLong(t *testing.T) {
	over := append(labelsOf(3, 63), strings.Repeat("b", 62))
	for _, s := range []string{strings.Repeat("x", 64), "a." + strings.Repeat("x", 64) + ".b.", strings.Join(over, "."), strings.Repeat("a.", 128), strings.Repeat("a", 1000), strings.Repeat("\\065", 64)} {
		if n, e := name.Parse(s); e != api.ErrLong || n != "" {
			t.Errorf("Parse(%q): %q %v", s, n, e)
		}
	}
}

// P1.3: names of labels.
func TestJoin(t *testing.T) {
	over := append(labelsOf(3, 63), strings.Repeat("b", 62))
	for _, x := range []struct {
		l    []string
		want string
		e    api.Errno
	}{
		{nil, "\x00", api.OK},
		{[]string{"www", "Ex"}, "\x03www\x02Ex\x00", api.OK},
		{[]string{"\x00", "a.b"}, "\x01\x00\x03a.b\x00", api.OK},
		{longest(), wire(longest()...), api.OK},
		{labelsOf(127, 1), wire(labelsOf(127, 1)...), api.OK},
		{[]string{""}, "", api.ErrArg},
		{[]string{"a", "", "b"}, "", api.ErrArg},
		{[]string{strings.Repeat("a", 64)}, "", api.ErrArg},
		{over, "", api.ErrLong},
		{labelsOf(128, 1), "", api.ErrLong},
		{append(labelsOf(300, 1), ""), "", api.ErrArg},
		{append(labelsOf(300, 1), strings.Repeat("a", 64)), "", api.ErrArg},
	} {
		if n, e := name.Join(x.l); n != x.want || e != x.e {
			t.Errorf("Join(%q): %q %v", x.l, n, e)
		}
	}
}

// R3: labels are the caller's own, and arguments stay.
func TestOwnLabels(t *testing.T) {
	n := wire("www", "ex")
	l := name.Labels(n)
	l[0] = "x"
	if again := name.Labels(n); again[0] != "www" {
		t.Error(again)
	}
	given := []string{"A", "b"}
	if _, e := name.Join(given); e != api.OK || given[0] != "A" || given[1] != "b" {
		t.Error(given, e)
	}
}

// P1.4: and back.
func TestBack(t *testing.T) {
	r := rand.New(rand.NewSource(1))
	for range 3000 {
		l := randomLabels(r)
		n := wire(l...)
		if j, e := name.Join(name.Labels(n)); e != api.OK || j != n {
			t.Fatalf("Join of Labels of %q: %q %v", n, j, e)
		}
		s := name.Text(n)
		back, e := name.Parse(s)
		if e != api.OK || back != n {
			t.Fatalf("Parse(%q): %q %v, not %q", s, back, e, n)
		}
		if len(l) > 0 {
			if back, e = name.Parse(s[:len(s)-1]); e != api.OK || back != n {
				t.Fatalf("Parse(%q): %q %v", s[:len(s)-1], back, e)
			}
		}
		if !reflect.DeepEqual(append([]string{}, name.Labels(n)...), append([]string{}, l...)) {
			t.Fatalf("Labels(%q)", n)
		}
	}
}

// P1.4: whatever is parsed has a text of its own.
func TestParsedText(t *testing.T) {
	r := rand.New(rand.NewSource(2))
	const runes = "aA.\\\\019 ~"
	for range 20000 {
		b := make([]byte, r.Intn(8))
		for i := range b {
			b[i] = runes[r.Intn(len(runes))]
		}
		n, e := name.Parse(string(b))
		if e != api.OK {
			if n != "" || e != api.ErrForm {
				t.Fatalf("Parse(%q): %q %v", b, n, e)
			}
			continue
		}
		s := name.Text(n)
		if back, e := name.Parse(s); e != api.OK || back != n || name.Text(back) != s {
			t.Fatalf("Parse(%q): %q, Text %q", b, n, s)
		}
	}
}

// order holds two lists of labels against each other as S1 says, label by label from the last one.
func order(a, b []string) int {
	a, b = foldLabels(a), foldLabels(b)
	for i := 0; i < len(a) && i < len(b); i++ {
		x, y := a[len(a)-1-i], b[len(b)-1-i]
		for j := 0; ; j++ {
			switch {
			case j == len(x) && j == len(y):
			case j == len(x):
				return -1
			case j == len(y):
				return 1
			case x[j] < y[j]:
				return -1
			case x[j] > y[j]:
				return 1
			default:
				continue
			}
			break
		}
	}
	switch {
	case len(a) < len(b):
		return -1
	case len(a) > len(b):
		return 1
	}
	return 0
}

// P1.2: the chapter's order.
func TestOrderExample(t *testing.T) {
	l := []string{".", "ex.", "a.ex.", "a.a.ex.", "b.ex.", "f."}
	for i, x := range l {
		for j, y := range l {
			a, _ := name.Parse(x)
			b, _ := name.Parse(y)
			want := 0
			if i < j {
				want = -1
			} else if i > j {
				want = 1
			}
			if got := name.Compare(a, b); got != want {
				t.Errorf("%s %s: %d", x, y, got)
			}
		}
	}
	for _, x := range []struct {
		a, b string
		want int
	}{
		{wire("ab"), wire("a"), 1}, {wire("a"), wire("ab"), -1}, {wire("\xff"), wire("a"), 1}, {wire("Z"), wire("a"), 1},
		{wire("["), wire("A"), -1}, {wire("aa"), wire("b"), -1}, {wire("a", "b"), wire("b", "a"), 1}, {wire("a", "\x00"), wire("\x00"), 1},
		{wire("a", "ab"), wire("a"), 1}, {wire("z", "a"), wire("ab"), -1},
	} {
		if got := name.Compare(x.a, x.b); got != x.want {
			t.Errorf("Compare(%q, %q): %d", x.a, x.b, got)
		}
	}
}

// P1.2, P1.5, P1.7: a total order, that letter case does not touch.
func TestOrder(t *testing.T) {
	r := rand.New(rand.NewSource(3))
	var all [][]string
	for range 150 {
		all = append(all, randomLabels(r))
	}
	for range 150 {
		x := all[r.Intn(len(all))]
		all = append(all, append([]string{randomLabel(r)}, x...), swapCase(r, x))
	}
	for _, a := range all {
		for _, b := range all {
			x, y := wire(a...), wire(b...)
			want := order(a, b)
			if got := name.Compare(x, y); got != want {
				t.Fatalf("Compare(%q, %q): %d, not %d", x, y, got, want)
			}
			if name.Same(x, y) != (want == 0) {
				t.Fatalf("Same(%q, %q)", x, y)
			}
			if name.Compare(y, x) != -want {
				t.Fatalf("Compare(%q, %q)", y, x)
			}
			c, d := wire(swapCase(r, a)...), wire(swapCase(r, b)...)
			if name.Compare(c, d) != want || name.Same(c, d) != (want == 0) || name.Within(c, d) != name.Within(x, y) {
				t.Fatalf("letter case of %q, %q", x, y)
			}
			if name.Fold(c) != name.Fold(x) {
				t.Fatalf("Fold(%q)", c)
			}
		}
	}
	for range 20000 {
		a, b, c := wire(all[r.Intn(len(all))]...), wire(all[r.Intn(len(all))]...), wire(all[r.Intn(len(all))]...)
		if name.Compare(a, b) <= 0 && name.Compare(b, c) <= 0 && name.Compare(a, c) > 0 {
			t.Fatalf("%q, %q, %q", a, b, c)
		}
	}
}

// P1.6: the names within a zone follow it, with nothing between.
func TestContiguous(t *testing.T) {
	r := rand.New(rand.NewSource(4))
	for range 200 {
		var all []string
		for range 30 {
			var l []string
			for range r.Intn(4) {
				l = append(l, string([]byte{"aAbB\x00"[r.Intn(5)]}))
			}
			all = append(all, wire(l...))
		}
		sort.SliceStable(all, func(i, j int) bool { return name.Compare(all[i], all[j]) < 0 })
		for _, zone := range all {
			state := 0
			for _, n := range all {
				in := name.Within(n, zone)
				switch {
				case in && state == 0:
					state = 1
					if !name.Same(n, zone) {
						t.Fatalf("%q is before its zone %q", n, zone)
					}
				case !in && state == 1:
					state = 2
				case in && state == 2:
					t.Fatalf("%q is not beside the others of %q", n, zone)
				}
			}
		}
	}
}

// P1.8: ancestors.
func TestAncestors(t *testing.T) {
	r := rand.New(rand.NewSource(5))
	for range 2000 {
		n := wire(randomLabels(r)...)
		var up []string
		for at := n; ; {
			up = append(up, at)
			p, is := name.Parent(at)
			if !is {
				if at != "\x00" {
					t.Fatalf("%q has no parent", at)
				}
				break
			}
			if len(name.Labels(p)) != len(name.Labels(at))-1 {
				t.Fatalf("%q: parent %q", at, p)
			}
			at = p
		}
		for i, x := range up {
			for j, y := range up {
				if got, want := name.Within(x, y), i <= j; got != want {
					t.Fatalf("Within(%q, %q): %v", x, y, got)
				}
			}
		}
		other := wire(randomLabels(r)...)
		if name.Within(n, other) {
			found := false
			for _, x := range up {
				found = found || fold(x) == fold(other)
			}
			if !found {
				t.Fatalf("%q is within %q", n, other)
			}
		}
	}
}
