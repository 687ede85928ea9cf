package conf

import (
	"strconv"
	"strings"

	"hustings/api"
	"hustings/name"
)

// keys are the words of the lines of the fields, in their order.
var keys = [12]string{"ups", "deadline", "hedge", "wait", "tries", "rest", "limit", "cache", "flights", "waiters", "ttl", "size"}

const mostTrusted = 15

// Show returns the text of a configuration.
func Show(c api.Config) (string, api.Errno) {
	if e := May(c); e != api.OK {
		return "", e
	}
	var b strings.Builder
	for i, f := range fields(&c) {
		b.WriteString(keys[i] + " " + strconv.Itoa(*f) + "\n")
	}
	for _, z := range c.Zones {
		b.WriteString("zone " + name.Text(z.Name) + " " + policies[z.Policy])
		for u := range mostTrusted + 1 {
			if z.Trust>>u&1 == 1 {
				b.WriteString(" " + strconv.Itoa(u))
			}
		}
		b.WriteString("\n")
	}
	return b.String(), api.OK
}

// policies are the words of the policies, which are numbered from 1 on.
var policies = [5]string{api.Strict: "strict", api.Union: "union", api.Trusted: "trusted", api.Refuse: "refuse"}

// policyOf returns the policy of a word, or 0.
func policyOf(word string) uint8 {
	for p := api.Strict; p <= api.Refuse; p++ {
		if policies[p] == word {
			return p
		}
	}
	return 0
}

// Parse returns the configuration of a text, or the line and the error.
func Parse(s string) (c api.Config, line int, e api.Errno) {
	if len(s) > api.MaxScript {
		return api.Config{}, 0, api.ErrLong
	}
	to := fields(&c)
	for line = 1; line <= len(to) || s != ""; line++ {
		text, rest, ended := strings.Cut(s, "\n")
		x := content(line, text)
		if n, is := x.(setting); ended && is {
			*to[line-1] = int(n)
		} else if z, is := x.(api.Zone); ended && is {
			c.Zones = append(c.Zones, z)
		} else {
			return api.Config{}, line, api.ErrForm
		}
		s = rest
	}
	if e := May(c); e != api.OK {
		return api.Config{}, 0, e
	}
	return c, 0, api.OK
}

// A setting is the number in the line of a field.
type setting int

// content returns what a line contains that stands at a number: a setting, a zone, or nothing that may stand there.
func content(line int, text string) any {
	words := strings.Split(text, " ")
	if line > len(keys) {
		return zoneOf(words)
	}
	if len(words) == 2 && words[0] == keys[line-1] {
		if n, is := number(words[1], api.MaxInt); is {
			return setting(n)
		}
	}
	return nil
}

func zoneOf(words []string) any {
	if len(words) < 3 || words[0] != "zone" {
		return nil
	}
	n, e := name.Parse(words[1])
	if e != api.OK || name.Text(n) != words[1] {
		return nil
	}
	z := api.Zone{Name: n, Policy: policyOf(words[2])}
	if z.Policy == api.Trusted {
		z.Trust = trust(words[3:])
	}
	switch {
	case z.Policy == api.Trusted && z.Trust != 0:
		return z
	case z.Policy != 0 && z.Policy != api.Trusted && len(words) == 3:
		return z
	}
	return nil
}

// trust returns the bits of upstreams, of which there must be some, in increasing order; otherwise none.
func trust(words []string) uint16 {
	var bits uint16
	least := 0
	for _, w := range words {
		u, is := number(w, mostTrusted)
		if !is || u < least {
			return 0
		}
		bits |= 1 << u
		least = u + 1
	}
	return bits
}

// number returns the number that digits write, if it is at most so great.
func number(s string, most int) (int, bool) {
	if s == "" || len(s) > 1 && s[0] == '0' {
		return 0, false
	}
	n := 0
	for i := range len(s) {
		if s[i] < '0' || s[i] > '9' {
			return 0, false
		}
		if n = 10*n + int(s[i]-'0'); n > most {
			return 0, false
		}
	}
	return n, true
}
