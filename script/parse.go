package script

import (
	"iter"
	"math"
	"strconv"
	"strings"

	"hustings/api"
	"hustings/conf"
	"hustings/forwarder"
)

// A line has a text, and whether a line feed ends it.
type line struct {
	text  string
	ended bool
}

// lines yields the lines of a text.
func lines(s string) iter.Seq[line] {
	return func(yield func(line) bool) {
		for s != "" {
			text, rest, ended := strings.Cut(s, "\n")
			if !yield(line{text, ended}) {
				return
			}
			s = rest
		}
	}
}

// split returns how many lines the configuration of a text has, and where it ends.
func split(s string) (count, end int) {
	for l := range lines(s) {
		if word, _, _ := strings.Cut(l.text, " "); word == "seed" {
			return count, end
		}
		count++
		end += len(l.text) + 1
	}
	return count, len(s)
}

// Parse returns the script of a text, or the line and the error.
func Parse(s string) (x Script, line int, e api.Errno) {
	if len(s) > api.MaxScript {
		return Script{}, 0, api.ErrLong
	}
	count, end := split(s)
	c, line, e := conf.Parse(s[:end])
	if e == api.ErrForm {
		return Script{}, line, e
	}
	p := parser{script: Script{Config: c}}
	for l := range lines(s[end:]) {
		if !l.ended || !p.take(l.text) {
			return Script{}, count + p.taken + 1, api.ErrForm
		}
		p.taken++
	}
	if p.taken < heads {
		return Script{}, count + p.taken + 1, api.ErrForm
	}
	if e != api.OK {
		return Script{}, 0, e
	}
	return p.script, 0, api.OK
}

// heads is how many lines there must be before those of the events: seed and tape.
const heads = 2

// A parser has what was parsed of the lines after the configuration.
type parser struct {
	script Script
	taken  int
}

// take takes the next line, and reports whether it may stand there.
func (p *parser) take(text string) bool {
	words := strings.Split(text, " ")
	switch p.taken {
	case 0:
		return p.takeSeed(words)
	case 1:
		return p.takeTape(words)
	}
	return p.takeEvent(words)
}

func (p *parser) takeSeed(words []string) bool {
	if len(words) != 2 || words[0] != "seed" {
		return false
	}
	n, is := number(words[1], math.MaxUint64)
	p.script.Seed = n
	return is
}

func (p *parser) takeTape(words []string) bool {
	if words[0] != "tape" || len(words)-1 > api.MaxTape {
		return false
	}
	for _, w := range words[1:] {
		n, is := number(w, math.MaxUint64)
		if !is {
			return false
		}
		p.script.First = append(p.script.First, n)
	}
	return true
}

func (p *parser) takeEvent(words []string) bool {
	var e forwarder.Event
	is := false
	switch {
	case len(words) == 3 && words[0] == "client":
		e, is = datagram(forwarder.Client, words)
	case len(words) == 3 && words[0] == "reply":
		e, is = datagram(forwarder.Reply, words)
	case len(words) == 2 && words[0] == "tick":
		var n uint64
		n, is = number(words[1], api.MaxTicks)
		e = forwarder.Event{Kind: forwarder.Tick, N: int64(n)}
	}
	p.script.Events = append(p.script.Events, e)
	return is
}

func datagram(kind uint8, words []string) (forwarder.Event, bool) {
	from, isNumber := number(words[1], api.MaxInt)
	data, isBytes := unhex(words[2])
	return forwarder.Event{Kind: kind, From: int(from), Data: data}, isNumber && isBytes
}

// number returns the number that digits write, if it is at most so great.
func number(s string, most uint64) (uint64, bool) {
	if len(s) > 1 && s[0] == '0' {
		return 0, false
	}
	n, err := strconv.ParseUint(s, 10, 64)
	return n, err == nil && n <= most
}

const digits = "0123456789abcdef"

// hex returns bytes as hexadecimal digits.
func hex(data string) string {
	if data == "" {
		return "-"
	}
	b := make([]byte, 0, 2*len(data))
	for i := range len(data) {
		b = append(b, digits[data[i]>>4], digits[data[i]&15])
	}
	return string(b)
}

// unhex returns the bytes that hexadecimal digits write.
func unhex(s string) (string, bool) {
	if s == "-" {
		return "", true
	}
	if s == "" || len(s)%2 != 0 {
		return "", false
	}
	b := make([]byte, 0, len(s)/2)
	for i := 0; i < len(s); i += 2 {
		high, low := strings.IndexByte(digits, s[i]), strings.IndexByte(digits, s[i+1])
		if high < 0 || low < 0 {
			return "", false
		}
		b = append(b, byte(high<<4|low))
	}
	return string(b), true
}
