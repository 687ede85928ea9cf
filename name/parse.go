package name

import "hustings/api"

// A reader has what was read of the text of a name.
type reader struct {
	labels []string
	label  []byte
	slash  bool // a backslash was read, and what it is for is not complete
	digits int  // how many digits followed it
	code   int  // and their number so far
}

// Parse returns the name with this text.
func Parse(s string) (string, api.Errno) {
	if s == "." {
		return root, api.OK
	}
	var p reader
	for _, r := range s {
		if !p.take(r) {
			return "", api.ErrForm
		}
	}
	if !p.end() {
		return "", api.ErrForm
	}
	n, e := Join(p.labels)
	if e != api.OK {
		// No label is empty here, so that whatever is wrong is too long.
		return "", api.ErrLong
	}
	return n, api.OK
}

func (p *reader) take(r rune) bool {
	switch {
	case r < 0x21 || r > 0x7E:
		return false
	case p.slash:
		return p.takeEscaped(r)
	case r == '\\':
		p.slash = true
	case r == '.':
		return p.endLabel()
	default:
		p.label = append(p.label, byte(r))
	}
	return true
}

func (p *reader) takeEscaped(r rune) bool {
	digit := '0' <= r && r <= '9'
	switch {
	case digit:
		p.code = 10*p.code + int(r-'0')
		p.digits++
		if p.digits < 3 {
			return true
		}
		if p.code > 255 {
			return false
		}
		p.label = append(p.label, byte(p.code))
	case p.digits > 0:
		return false
	default:
		p.label = append(p.label, byte(r))
	}
	p.slash, p.digits, p.code = false, 0, 0
	return true
}

func (p *reader) endLabel() bool {
	if len(p.label) == 0 {
		return false
	}
	p.labels = append(p.labels, string(p.label))
	p.label = p.label[:0]
	return true
}

// end reports whether a text may end here; its last dot may be missing.
func (p *reader) end() bool {
	if p.slash {
		return false
	}
	if len(p.label) > 0 {
		p.endLabel()
	}
	return len(p.labels) > 0
}
