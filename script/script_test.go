package script_test

import (
	"encoding/hex"
	"fmt"
	"math/rand"
	"slices"
	"strconv"
	"strings"
	"testing"

	"hustings/api"
	"hustings/conf"
	"hustings/forwarder"
	"hustings/script"
)

func example() api.Config {
	return api.Config{Ups: 3, Deadline: 20, Hedge: 2, Wait: 5, Tries: 2, Rest: 100, Limit: 50, Cache: 8, Flights: 4, Waiters: 4, TTL: 3600, Size: 1232}
}

const (
	head   = "ups 3\ndeadline 20\nhedge 2\nwait 5\ntries 2\nrest 100\nlimit 50\ncache 8\nflights 4\nwaiters 4\nttl 3600\nsize 1232\n"
	asked  = "0007010000010000000000000265780000010001"
	body   = "seed 0\ntape 0 0 5 6\n"
	events = "tick 2\nclient 7 -\nreply 3 00\nclient 7 " + asked + "\n"
	report = "1 0\n2 0\n3 error 1\n4 2\n" +
		"up 1 000501000001000000000001026578000001000100002904d0000000000000\n" +
		"up 2 000601000001000000000001026578000001000100002904d0000000000000\n" +
		"counts 2 1 0 0 0 0 0 2 0 0 0 0\nnow 2\ndraws 4\n"
)

func raw(s string) string {
	b, err := hex.DecodeString(s)
	if err != nil {
		panic(s)
	}
	return string(b)
}

func exampleScript() script.Script {
	return script.Script{Config: example(), First: []uint64{0, 0, 5, 6}, Events: []forwarder.Event{
		{Kind: forwarder.Tick, N: 2}, {Kind: forwarder.Client, From: 7}, {Kind: forwarder.Reply, From: 3, Data: "\x00"}, {Kind: forwarder.Client, From: 7, Data: raw(asked)},
	}}
}

func same(a, b script.Script) bool {
	x, e := conf.Show(a.Config)
	y, e2 := conf.Show(b.Config)
	return x == y && e == e2 && (e == api.OK || fmt.Sprint(a.Config) == fmt.Sprint(b.Config)) && a.Seed == b.Seed && slices.Equal(a.First, b.First) && slices.Equal(a.Events, b.Events)
}

// P32.1, P32.2: the chapter's examples.
func TestExample(t *testing.T) {
	text := head + body + events
	if s, e := script.Show(exampleScript()); s != text || e != api.OK {
		t.Errorf("%q %v", s, e)
	}
	if x, line, e := script.Parse(text); !same(x, exampleScript()) || line != 0 || e != api.OK {
		t.Errorf("%+v %d %v", x, line, e)
	}
	if s, e := script.Play(exampleScript()); s != report || e != api.OK {
		t.Errorf("%q %v", s, e)
	}
	if s := script.Run(text); s != report {
		t.Errorf("%q", s)
	}
	if s := script.Run(head + "seed 18446744073709551615\ntape\n"); s != "counts 0 0 0 0 0 0 0 0 0 0 0 0\nnow 0\ndraws 0\n" {
		t.Errorf("%q", s)
	}
	if s := script.Run(head + "seed 1\ntape\ntick 3\ntick 1099511627774\ntick 1099511627773\nclient 65536 00\nclient 65535 000000000000000000000000\n"); s != "1 0\n2 error 1\n3 0\n4 error 1\n5 1\nclient 65535 000080810000000000000000\ncounts 1 0 0 0 0 1 0 0 0 0 0 0\nnow 1099511627776\ndraws 0\n" {
		t.Errorf("%q", s)
	}
}

// P32.1, P32.2: what is refused, at which line.
func TestErrors(t *testing.T) {
	good := head + body
	lines := strings.SplitAfter(head, "\n")
	tape := func(n int) string { return head + "seed 0\ntape" + strings.Repeat(" 1", n) + "\n" }
	bad := strings.Replace(head, "ups 3", "ups 4", 1)
	for _, x := range []struct {
		s    string
		e    api.Errno
		line int
	}{
		{"", 3, 1}, {"\n", 3, 1}, {"seed 0\n", 3, 1}, {head, 3, 13}, {head + "seed 0\n", 3, 14}, {head + "seed 0", 3, 13}, {head + "seed 0\ntape", 3, 14}, {good, 0, 0}, {strings.Join(lines[:5], ""), 3, 6}, {strings.Join(lines[:5], "") + body, 3, 6},
		{head[:len(head)-1], 3, 12}, {head + "seed 00\n" + "tape\n", 3, 13}, {head + "seed 0\ntick 2\n", 3, 14}, {good + "tick 1 \n", 3, 15}, {bad + body, 1, 0}, {bad + body + "tick 1 \n", 3, 15}, {bad + "seed 0\n", 3, 14}, {bad, 3, 13},
		{head + "seeds 0\ntape\n", 3, 13}, {head + "seed\ntape\n", 3, 13}, {head + "seed \ntape\n", 3, 13}, {head + "seed 0 0\ntape\n", 3, 13}, {head + "seed -1\ntape\n", 3, 13}, {head + "seed +1\ntape\n", 3, 13}, {head + " seed 1\ntape\n", 3, 13},
		{head + "seed 18446744073709551616\ntape\n", 3, 13}, {head + "seed 18446744073709551615\ntape 18446744073709551615 0\n", 0, 0}, {head + "seed 0\ntape 18446744073709551616\n", 3, 14}, {head + "seed 0x1\ntape\n", 3, 13}, {head + "seed 1_0\ntape\n", 3, 13},
		{head + "seed 0\ntape \n", 3, 14}, {head + "seed 0\ntape 1  2\n", 3, 14}, {head + "seed 0\ntape 01\n", 3, 14}, {head + "seed 0\ntapes\n", 3, 14}, {head + "seed 0\n\n", 3, 14}, {tape(256), 0, 0}, {tape(257), 3, 14}, {head + "seed 0\nseed 0\n", 3, 14},
		{head + "zone ex. strict\nseed 0\ntape\n", 0, 0}, {head + "zone Ex. strict\nseed 0\ntape\n", 1, 0}, {head + "zone ex strict\nseed 0\ntape\n", 3, 13}, {head + "zone ex. strict\n", 3, 14}, {head + "zone ex. strict\nseed 0\nx\n", 3, 15}, {head + body + head, 3, 15},
		{good + "tick 0\n", 0, 0}, {good + "tick\n", 3, 15}, {good + "tick 01\n", 3, 15}, {good + "tick -1\n", 3, 15}, {good + "tick 1099511627776\n", 0, 0}, {good + "tick 1099511627777\n", 3, 15}, {good + "tick 1", 3, 15}, {good + "tick 1\ntick 1", 3, 16}, {good + "\n", 3, 15},
		{good + "tick 1 1\n", 3, 15}, {good + "Tick 1\n", 3, 15}, {good + "tick 1\r\n", 3, 15}, {good + "tock 1\n", 3, 15}, {good + "tick 99999999999999999999\n", 3, 15},
		{good + "client 0 -\n", 0, 0}, {good + "client 2147483647 -\n", 0, 0}, {good + "client 2147483648 -\n", 3, 15}, {good + "client 00 -\n", 3, 15}, {good + "client -1 -\n", 3, 15}, {good + "client 0\n", 3, 15}, {good + "client 0 \n", 3, 15}, {good + "client 0 - \n", 3, 15},
		{good + "client 0 0\n", 3, 15}, {good + "client 0 0A\n", 3, 15}, {good + "client 0 0g\n", 3, 15}, {good + "client 0 --\n", 3, 15}, {good + "client 0 0a\n", 0, 0}, {good + "client 0 ff00\n", 0, 0}, {good + "client 0 ff0\n", 3, 15}, {good + "client  0 ff\n", 3, 15}, {good + "client 0 00 00\n", 3, 15},
		{good + "client 0 \xc3\xa9\n", 3, 15}, {good + "client x -\n", 3, 15},
		{good + "reply 0 -\n", 0, 0}, {good + "reply 2147483647 ab\n", 0, 0}, {good + "reply 2147483648 ab\n", 3, 15}, {good + "reply ab\n", 3, 15}, {good + "reply 1 abc\n", 3, 15}, {good + "up 1 ab\n", 3, 15},
		{good + strings.Repeat("tick 1\n", 3) + "x\nx\n", 3, 18}, {strings.Repeat("a", api.MaxScript+1), 5, 0}, {good + strings.Repeat("\n", api.MaxScript), 5, 0}, {strings.Repeat("\n", api.MaxScript), 3, 1}, {good + strings.Repeat("\n", api.MaxScript-len(good)), 3, 15},
	} {
		y, line, e := script.Parse(x.s)
		if e != x.e || line != x.line || e != api.OK && !same(y, script.Script{}) {
			t.Errorf("%.300q: %d %v, not %d %v", x.s, line, e, x.line, x.e)
		}
		if got, want := script.Run(x.s), fmt.Sprintf("error %d line %d\n", x.e, x.line); (got == want) != (x.e != api.OK) {
			t.Errorf("%.300q: %q, not %q", x.s, got, want)
		}
	}
}

// P32.1, P32.2: scripts that are invalid, or too long.
func TestInvalid(t *testing.T) {
	of := func(change func(x *script.Script)) script.Script {
		x := exampleScript()
		change(&x)
		return x
	}
	event := func(e forwarder.Event) script.Script {
		return of(func(x *script.Script) { x.Events[1] = e })
	}
	for i, x := range []script.Script{
		{}, of(func(x *script.Script) { x.Config.Ups = 4 }), of(func(x *script.Script) { x.First = make([]uint64, 257) }), event(forwarder.Event{}), event(forwarder.Event{Kind: 4}), event(forwarder.Event{Kind: forwarder.Client, From: -1}),
		event(forwarder.Event{Kind: forwarder.Client, From: api.MaxInt + 1}), event(forwarder.Event{Kind: forwarder.Reply, From: -1}), event(forwarder.Event{Kind: forwarder.Reply, From: 1 << 40}), event(forwarder.Event{Kind: forwarder.Tick, N: -1}),
		event(forwarder.Event{Kind: forwarder.Tick, N: api.MaxTicks + 1}),
		{Config: api.Config{Ups: 4}, Events: []forwarder.Event{{Kind: forwarder.Client, Data: strings.Repeat("a", api.MaxScript)}}},
	} {
		if s, e := script.Show(x); s != "" || e != api.ErrArg {
			t.Errorf("%d: %q %v", i, s, e)
		}
		if s, e := script.Play(x); s != "" || e != api.ErrArg {
			t.Errorf("%d: %q %v", i, s, e)
		}
	}
	for i, x := range []script.Script{
		of(func(x *script.Script) { x.First = make([]uint64, 256) }), event(forwarder.Event{Kind: forwarder.Client, From: api.MaxInt, N: -5}), event(forwarder.Event{Kind: forwarder.Reply, From: api.MaxInt, N: 1 << 62}),
		event(forwarder.Event{Kind: forwarder.Tick, N: api.MaxTicks, From: -3, Data: "unused"}), of(func(x *script.Script) { x.Events = nil }), of(func(x *script.Script) { x.First = nil }),
	} {
		s, e := script.Show(x)
		if e != api.OK {
			t.Errorf("%d: %v", i, e)
		}
		if _, e := script.Play(x); e != api.OK {
			t.Errorf("%d: %v", i, e)
		}
		if y, _, e := script.Parse(s); e != api.OK || !same(y, used(x)) {
			t.Errorf("%d: %v %+v", i, e, y)
		}
	}
	// The longest text, and one that is longer.
	base := len(head) + len(body) + len("client 7 \n")
	fits := exampleScript()
	fits.Events = []forwarder.Event{{Kind: forwarder.Client, From: 7, Data: strings.Repeat("a", (api.MaxScript-base)/2)}}
	if (api.MaxScript-base)%2 == 1 {
		fits.Events[0].From = 77
	}
	s, e := script.Show(fits)
	if e != api.OK || len(s) != api.MaxScript {
		t.Fatal(len(s), e)
	}
	if x, _, e := script.Parse(s); e != api.OK || !same(x, fits) {
		t.Error(e)
	}
	fits.Events[0].From *= 1000
	if s, e := script.Show(fits); s != "" || e != api.ErrLong {
		t.Error(len(s), e)
	}
	if _, e := script.Play(fits); e != api.OK {
		t.Error(e)
	}
}

// used is a script without the fields that its events do not use.
func used(x script.Script) script.Script {
	x.Events = slices.Clone(x.Events)
	for i, e := range x.Events {
		if e.Kind == forwarder.Tick {
			x.Events[i] = forwarder.Event{Kind: e.Kind, N: e.N}
		} else {
			x.Events[i].N = 0
		}
	}
	return x
}

func randomScript(r *rand.Rand) script.Script {
	x := script.Script{Config: example(), Seed: r.Uint64() >> r.Intn(64)}
	x.Config.Cache, x.Config.Flights = r.Intn(3), 1+r.Intn(3)
	for range r.Intn(9) {
		x.First = append(x.First, r.Uint64()>>r.Intn(64))
	}
	for range r.Intn(12) {
		e := forwarder.Event{Kind: uint8(1 + r.Intn(3)), From: r.Intn(5), N: int64(r.Intn(9))}
		if r.Intn(5) == 0 {
			e.From, e.N = r.Intn(1<<31), int64(r.Intn(1<<40))
		}
		b := make([]byte, r.Intn(20))
		r.Read(b)
		e.Data = string(b)
		if r.Intn(2) == 0 {
			e.Data = raw(asked)
		}
		x.Events = append(x.Events, e)
	}
	return x
}

// lines are those that the chapter says for an event.
func lines(n int, l []forwarder.Out, e api.Errno) string {
	if e != api.OK {
		return fmt.Sprintf("%d error %d\n", n, e)
	}
	s := fmt.Sprintf("%d %d\n", n, len(l))
	for _, o := range l {
		word := "client"
		if o.Up {
			word = "up"
		}
		s += fmt.Sprintf("%s %d %x\n", word, o.To, o.Data)
	}
	return s
}

func last(f *forwarder.Forwarder) string {
	s := "counts"
	for _, n := range f.Counts() {
		s += " " + strconv.Itoa(n)
	}
	return fmt.Sprintf("%s\nnow %d\ndraws %d\n", s, f.Now(), f.Draws())
}

// P32.3, P32.4, P32.6: any scripts, and back; their reports, event by event.
func TestAny(t *testing.T) {
	r := rand.New(rand.NewSource(1))
	for range 1500 {
		x := randomScript(r)
		s, e := script.Show(x)
		if e != api.OK {
			t.Fatal(e)
		}
		y, line, e := script.Parse(s)
		if e != api.OK || line != 0 || !same(y, used(x)) {
			t.Fatalf("%q: %+v %v", s, y, e)
		}
		if again, e := script.Show(y); again != s || e != api.OK {
			t.Fatalf("%q, not %q", again, s)
		}
		f, _ := forwarder.New(x.Config, x.Seed, x.First)
		want := ""
		for i, e := range x.Events {
			l, errno := f.Do(e)
			want += lines(i+1, l, errno)
			cut := x
			cut.Events = x.Events[:i+1]
			if got, _ := script.Play(cut); got != want+last(f) {
				t.Fatalf("%q, not %q", got, want+last(f))
			}
		}
		got, e := script.Play(x)
		if got != want+last(f) || e != api.OK || script.Run(s) != got {
			t.Fatalf("%q %v, not %q", got, e, want)
		}
	}
}

// P32.5: a text that is refused at a line is refused there whatever follows; one that is accepted is its own.
func TestFirstWrongLine(t *testing.T) {
	r := rand.New(rand.NewSource(2))
	for range 4000 {
		s, _ := script.Show(randomScript(r))
		b := []byte(s)
		for range 1 + r.Intn(2) {
			b[r.Intn(len(b))] = "0 1\n.a-"[r.Intn(7)]
		}
		s = string(b)
		x, line, e := script.Parse(s)
		switch e {
		case api.OK:
			if own, e := script.Show(x); own != s || e != api.OK {
				t.Fatalf("%q: %q %v", s, own, e)
			}
		case api.ErrForm:
			upTo := strings.SplitAfter(s, "\n")
			if line > len(upTo) || !strings.HasSuffix(upTo[line-1], "\n") {
				break
			}
			s = strings.Join(upTo[:line], "")
			for _, more := range []string{"", "x", "\n", "tick 1\n", "tape\n"} {
				if _, line2, e2 := script.Parse(s + more); line2 != line || e2 != api.ErrForm {
					t.Fatalf("%q: %d %v, not %d", s+more, line2, e2, line)
				}
			}
		}
	}
}

// P32.7: ticks in one line, or in two.
func TestTicks(t *testing.T) {
	r := rand.New(rand.NewSource(3))
	outs := func(report string) []string {
		return slices.DeleteFunc(strings.Split(report, "\n"), func(s string) bool { return s == "" || s[0] >= '0' && s[0] <= '9' })
	}
	for range 500 {
		x := randomScript(r)
		y := x
		y.Events = nil
		for _, e := range x.Events {
			if e.Kind == forwarder.Tick && e.N < 100 {
				n := int64(r.Intn(int(e.N) + 1))
				y.Events = append(y.Events, forwarder.Event{Kind: forwarder.Tick, N: n})
				e.N -= n
			}
			y.Events = append(y.Events, e)
		}
		a, _ := script.Play(x)
		b, _ := script.Play(y)
		if !slices.Equal(outs(a), outs(b)) {
			t.Fatalf("%q, and %q", a, b)
		}
	}
}

// P32.8: a dropped datagram in a line of its own changes no other line's datagrams.
func TestDropped(t *testing.T) {
	r := rand.New(rand.NewSource(4))
	outs := func(report string) []string {
		return slices.DeleteFunc(strings.Split(report, "\n"), func(s string) bool { return !strings.HasPrefix(s, "up") && !strings.HasPrefix(s, "client") })
	}
	for range 500 {
		x := randomScript(r)
		y := x
		at := r.Intn(len(x.Events) + 1)
		y.Events = slices.Insert(slices.Clone(x.Events), at, forwarder.Event{Kind: forwarder.Client, From: 3, Data: []string{"", "abc", raw("0007810000010000000000000265780000010001")}[r.Intn(3)]})
		a, _ := script.Play(x)
		b, _ := script.Play(y)
		if !slices.Equal(outs(a), outs(b)) {
			t.Fatalf("%q, and %q", a, b)
		}
	}
}

// R3: arguments stay.
func TestStays(t *testing.T) {
	x := exampleScript()
	script.Show(x)
	script.Play(x)
	if !same(x, exampleScript()) {
		t.Error(x)
	}
}
