package conf_test

import (
	"math/rand"
	"slices"
	"strconv"
	"strings"
	"testing"

	"hustings/api"
	"hustings/conf"
	"hustings/name"
)

func named(s string) string {
	n, e := name.Parse(s)
	if e != api.OK {
		panic(s)
	}
	return n
}

func example() api.Config {
	return api.Config{Ups: 3, Deadline: 20, Hedge: 2, Wait: 5, Tries: 2, Rest: 100, Limit: 50, Cache: 8, Flights: 4, Waiters: 4, TTL: 3600, Size: 1232}
}

const text = "ups 3\ndeadline 20\nhedge 2\nwait 5\ntries 2\nrest 100\nlimit 50\ncache 8\nflights 4\nwaiters 4\nttl 3600\nsize 1232\n"

func with(change func(c *api.Config)) api.Config {
	c := example()
	change(&c)
	return c
}

func zones(l ...api.Zone) api.Config {
	return with(func(c *api.Config) { c.Zones = l })
}

func zone(s string, policy uint8, trust uint16) api.Zone {
	return api.Zone{Name: named(s), Policy: policy, Trust: trust}
}

func same(a, b api.Config) bool {
	x, y := a.Zones, b.Zones
	a.Zones, b.Zones = nil, nil
	one := []int{a.Ups, a.Deadline, a.Hedge, a.Wait, a.Tries, a.Rest, a.Limit, a.Cache, a.Flights, a.Waiters, a.TTL, a.Size}
	two := []int{b.Ups, b.Deadline, b.Hedge, b.Wait, b.Tries, b.Rest, b.Limit, b.Cache, b.Flights, b.Waiters, b.TTL, b.Size}
	return slices.Equal(one, two) && slices.Equal(x, y)
}

// P17.1, P17.4: the least and the greatest values, and those beyond.
func TestMay(t *testing.T) {
	many := make([]api.Zone, 17)
	for i := range many {
		many[i] = zone("z"+strconv.Itoa(i)+".", api.Strict, 0)
	}
	for i, c := range []api.Config{
		example(),
		with(func(c *api.Config) { c.Deadline = 12 }), with(func(c *api.Config) { c.Deadline = api.MaxEnd }),
		with(func(c *api.Config) { c.Ups, c.Deadline = 1, 10 }), with(func(c *api.Config) { c.Ups, c.Deadline = 9, 18 }),
		with(func(c *api.Config) { c.Hedge = 1 }), with(func(c *api.Config) { c.Hedge, c.Deadline = 1000, 1010 }),
		with(func(c *api.Config) { c.Wait = 1 }), with(func(c *api.Config) { c.Wait, c.Deadline = 1000, 2002 }),
		with(func(c *api.Config) { c.Tries = 1 }), with(func(c *api.Config) { c.Tries, c.Deadline = 4, 22 }),
		with(func(c *api.Config) { c.Rest = 1 }), with(func(c *api.Config) { c.Rest = 100000 }),
		with(func(c *api.Config) { c.Limit = 1 }), with(func(c *api.Config) { c.Limit = 100 }),
		with(func(c *api.Config) { c.Cache = 0 }), with(func(c *api.Config) { c.Cache = 256 }),
		with(func(c *api.Config) { c.Flights = 1 }), with(func(c *api.Config) { c.Flights = 32 }),
		with(func(c *api.Config) { c.Waiters = 1 }), with(func(c *api.Config) { c.Waiters = 16 }),
		with(func(c *api.Config) { c.TTL = 0 }), with(func(c *api.Config) { c.TTL = 1<<31 - 1 }),
		with(func(c *api.Config) { c.Size = 512 }), with(func(c *api.Config) { c.Size = 4096 }),
		zones(many[:16]...), zones(zone("ex.", api.Strict, 0), zone("a.ex.", api.Union, 0), zone("cdn.", api.Trusted, 5), zone("r.", api.Refuse, 0), zone(".", api.Trusted, 7)),
	} {
		if e := conf.May(c); e != api.OK {
			t.Errorf("%d: %v %v", i, c, e)
		}
		if n := conf.Lies(c); n != c.Ups/2 || c.Ups != 2*n+1 {
			t.Errorf("%d: %d", i, n)
		}
	}
	for i, c := range []api.Config{
		{},
		with(func(c *api.Config) { c.Deadline = 11 }), with(func(c *api.Config) { c.Deadline = api.MaxEnd + 1 }), with(func(c *api.Config) { c.Deadline = -1 }), with(func(c *api.Config) { c.Deadline = 0 }),
		with(func(c *api.Config) { c.Ups, c.Deadline = 9, 17 }), with(func(c *api.Config) { c.Ups, c.Deadline = 1, 9 }),
		with(func(c *api.Config) { c.Ups = 0 }), with(func(c *api.Config) { c.Ups = 2 }), with(func(c *api.Config) { c.Ups = 4 }), with(func(c *api.Config) { c.Ups, c.Deadline = 11, 99 }),
		with(func(c *api.Config) { c.Ups = -1 }), with(func(c *api.Config) { c.Ups = -3 }), with(func(c *api.Config) { c.Ups = 8 }), with(func(c *api.Config) { c.Ups = 1<<63 - 1 }),
		with(func(c *api.Config) { c.Hedge = 0 }), with(func(c *api.Config) { c.Hedge, c.Deadline = 1001, 5000 }), with(func(c *api.Config) { c.Hedge = -1 }),
		with(func(c *api.Config) { c.Wait = 0 }), with(func(c *api.Config) { c.Wait, c.Deadline = 1001, 5000 }),
		with(func(c *api.Config) { c.Wait = -1 << 63 }), with(func(c *api.Config) { c.Wait = 1 << 62 }),
		with(func(c *api.Config) { c.Tries = 0 }), with(func(c *api.Config) { c.Tries, c.Deadline = 5, 99 }),
		with(func(c *api.Config) { c.Rest = 0 }), with(func(c *api.Config) { c.Rest = 100001 }),
		with(func(c *api.Config) { c.Limit = 0 }), with(func(c *api.Config) { c.Limit = 101 }),
		with(func(c *api.Config) { c.Cache = -1 }), with(func(c *api.Config) { c.Cache = 257 }),
		with(func(c *api.Config) { c.Flights = 0 }), with(func(c *api.Config) { c.Flights = 33 }),
		with(func(c *api.Config) { c.Waiters = 0 }), with(func(c *api.Config) { c.Waiters = 17 }),
		with(func(c *api.Config) { c.TTL = -1 }), with(func(c *api.Config) { c.TTL = 1 << 31 }),
		with(func(c *api.Config) { c.Size = 511 }), with(func(c *api.Config) { c.Size = 4097 }),
		zones(many...), zones(zone("Ex.", api.Strict, 0)), zones(api.Zone{Name: "ex", Policy: api.Strict}), zones(api.Zone{Policy: api.Strict}),
		zones(zone("ex.", api.Strict, 0), zone("a.", api.Union, 0), zone("ex.", api.Union, 0)),
		zones(zone("ex.", 0, 0)), zones(zone("ex.", 5, 0)), zones(zone("ex.", 255, 0)),
		zones(zone("ex.", api.Strict, 1)), zones(zone("ex.", api.Union, 1)), zones(zone("ex.", api.Refuse, 4)),
		zones(zone("ex.", api.Trusted, 0)), zones(zone("ex.", api.Trusted, 8)), zones(zone("ex.", api.Trusted, 9)), zones(zone("ex.", api.Trusted, 0x8001)),
		zones(zone("a.", api.Strict, 0), zone("ex.", api.Trusted, 1<<3)),
	} {
		if e := conf.May(c); e != api.ErrArg {
			t.Errorf("%d: %v %v", i, c, e)
		}
		if n := conf.Lies(c); n != 0 {
			t.Errorf("%d: %d", i, n)
		}
		if s, e := conf.Show(c); s != "" || e != api.ErrArg {
			t.Errorf("%d: %q %v", i, s, e)
		}
	}
}

// P17.2: the chapter's examples, as texts.
func TestShow(t *testing.T) {
	if s, e := conf.Show(example()); s != text || e != api.OK {
		t.Errorf("%q %v", s, e)
	}
	c := zones(zone("cdn.", api.Trusted, 5), zone("a.b.", api.Strict, 0), zone(".", api.Union, 0), zone("\\032\\..", api.Refuse, 0))
	want := text + "zone cdn. trusted 0 2\nzone a.b. strict\nzone . union\nzone \\032\\.. refuse\n"
	if s, e := conf.Show(c); s != want || e != api.OK {
		t.Errorf("%q %v", s, e)
	}
	if got, line, e := conf.Parse(want); !same(got, c) || line != 0 || e != api.OK {
		t.Error(got, line, e)
	}
	c = with(func(c *api.Config) { c.Ups, c.Deadline, c.Zones = 9, 100, []api.Zone{zone("t.", api.Trusted, 0x1ff)} })
	if s, _ := conf.Show(c); !strings.HasSuffix(s, "zone t. trusted 0 1 2 3 4 5 6 7 8\n") {
		t.Errorf("%q", s)
	}
}

// P17.2: what is refused, at which line.
func TestParse(t *testing.T) {
	lines := strings.SplitAfter(text, "\n")[:12]
	at := func(line int, s string) string {
		l := slices.Clone(lines)
		l[line-1] = s
		return strings.Join(l, "")
	}
	for _, x := range []struct {
		s    string
		line int
		e    api.Errno
	}{
		{text, 0, api.OK},
		{"", 1, api.ErrForm}, {"\n", 1, api.ErrForm}, {"ups 3", 1, api.ErrForm}, {"ups 3\n", 2, api.ErrForm}, {text[:len(text)-1], 12, api.ErrForm}, {text[:len(text)-10], 12, api.ErrForm},
		{at(1, "Ups 3\n"), 1, api.ErrForm}, {at(1, "ups  3\n"), 1, api.ErrForm}, {at(1, "ups 3 \n"), 1, api.ErrForm}, {at(1, " ups 3\n"), 1, api.ErrForm}, {at(1, "ups\t3\n"), 1, api.ErrForm},
		{at(1, "ups 03\n"), 1, api.ErrForm}, {at(1, "ups +3\n"), 1, api.ErrForm}, {at(1, "ups -3\n"), 1, api.ErrForm}, {at(1, "ups 3\r\n"), 1, api.ErrForm}, {at(1, "ups\n"), 1, api.ErrForm},
		{at(1, "ups \n"), 1, api.ErrForm}, {at(1, "ups 3x\n"), 1, api.ErrForm}, {at(1, "ups 0x3\n"), 1, api.ErrForm}, {at(1, "ups 3.0\n"), 1, api.ErrForm}, {at(1, "ups 3 3\n"), 1, api.ErrForm},
		{at(1, "ups 00\n"), 1, api.ErrForm}, {at(1, "ups \xd9\xa3\n"), 1, api.ErrForm},
		{at(1, "ups 2147483648\n"), 1, api.ErrForm}, {at(1, "ups 99999999999999999999999\n"), 1, api.ErrForm}, {at(1, "ups 18446744073709551619\n"), 1, api.ErrForm}, {at(1, "ups 2147483647\n"), 0, api.ErrArg},
		{at(1, "ups 4\n"), 0, api.ErrArg}, {at(1, "ups 0\n"), 0, api.ErrArg}, {at(8, "cache 0\n"), 0, api.OK}, {at(8, "cache 257\n"), 0, api.ErrArg}, {at(2, "deadline 11\n"), 0, api.ErrArg}, {at(2, "deadline 12\n"), 0, api.OK},
		{at(2, "ups 3\n"), 2, api.ErrForm}, {at(5, ""), 5, api.ErrForm}, {at(12, ""), 12, api.ErrForm}, {at(12, "\n"), 12, api.ErrForm}, {at(12, "size 1232\n\n"), 13, api.ErrForm}, {at(6, "zone ex. strict\n"), 6, api.ErrForm},
		{at(1, "ups 4\n") + "zone", 13, api.ErrForm}, {text + "ups 3\n", 13, api.ErrForm},
		{text + "zone ex. strict\n", 0, api.OK}, {text + "zone ex. strict", 13, api.ErrForm}, {text + "zone ex strict\n", 13, api.ErrForm}, {text + "zone Ex. strict\n", 0, api.ErrArg},
		{text + "zone ex. Strict\n", 13, api.ErrForm}, {text + "zone ex. strict 0\n", 13, api.ErrForm}, {text + "zone ex. strict \n", 13, api.ErrForm}, {text + "zone ex.\n", 13, api.ErrForm}, {text + "zone\n", 13, api.ErrForm},
		{text + "zone ex. \n", 13, api.ErrForm}, {text + "zones ex. strict\n", 13, api.ErrForm}, {text + "zone  ex. strict\n", 13, api.ErrForm}, {text + "zone ex.  strict\n", 13, api.ErrForm}, {text + "zone \\e\\x. strict\n", 13, api.ErrForm},
		{text + "zone \\101x. strict\n", 13, api.ErrForm}, {text + "zone .. strict\n", 13, api.ErrForm}, {text + "zone . strict\n", 0, api.OK}, {text + "zone " + strings.Repeat("a", 64) + ". strict\n", 13, api.ErrForm},
		{text + "zone ex. none\n", 13, api.ErrForm}, {text + "zone ex. union 1\n", 13, api.ErrForm}, {text + "zone ex. refuse\n", 0, api.OK}, {text + "zone ex. refuse 1\n", 13, api.ErrForm}, {text + "zone ex. union\n", 0, api.OK},
		{text + "zone ex. trusted\n", 13, api.ErrForm}, {text + "zone ex. trusted \n", 13, api.ErrForm}, {text + "zone ex. trusted 0 2\n", 0, api.OK}, {text + "zone ex. trusted 2 0\n", 13, api.ErrForm}, {text + "zone ex. trusted 0 0\n", 13, api.ErrForm},
		{text + "zone ex. trusted 16\n", 13, api.ErrForm}, {text + "zone ex. trusted 0 16\n", 13, api.ErrForm}, {text + "zone ex. trusted 0 15\n", 0, api.ErrArg}, {text + "zone ex. trusted 15\n", 0, api.ErrArg}, {text + "zone ex. trusted 3\n", 0, api.ErrArg}, {text + "zone ex. trusted 02\n", 13, api.ErrForm}, {text + "zone ex. trusted 0  2\n", 13, api.ErrForm},
		{text + "zone ex. trusted 0 2 \n", 13, api.ErrForm}, {text + "zone ex. trusted 0 x\n", 13, api.ErrForm}, {text + "zone ex. trusted -1\n", 13, api.ErrForm},
		{text + "zone ex. strict\nzone ex. union\n", 0, api.ErrArg}, {text + "zone ex. strict\nzone\n", 14, api.ErrForm}, {at(1, "ups 4\n") + "zone ex. strict\nzone a. b\n", 14, api.ErrForm},
		{text + strings.Repeat("zone a. strict\n", 17), 0, api.ErrArg},
		{strings.Repeat("a", api.MaxScript+1), 0, api.ErrLong}, {text + strings.Repeat("a", api.MaxScript), 0, api.ErrLong}, {strings.Repeat("\n", api.MaxScript), 1, api.ErrForm}, {text + strings.Repeat("a", api.MaxScript-len(text)), 13, api.ErrForm},
		{text + strings.Repeat("zone a. strict\n", 8000), 0, api.ErrArg},
	} {
		c, line, e := conf.Parse(x.s)
		if line != x.line || e != x.e || e != api.OK && !same(c, api.Config{}) {
			t.Errorf("%.400q: %v %d %v, not %d %v", x.s, c, line, e, x.line, x.e)
		}
	}
}

func random(r *rand.Rand) api.Config {
	c := api.Config{Ups: 1 + 2*r.Intn(5), Hedge: 1 + r.Intn(1000), Wait: 1 + r.Intn(1000), Tries: 1 + r.Intn(4), Rest: 1 + r.Intn(api.MaxEnd), Limit: 1 + r.Intn(100), Cache: r.Intn(257),
		Flights: 1 + r.Intn(32), Waiters: 1 + r.Intn(16), TTL: r.Intn(1 << 31), Size: 512 + r.Intn(4096-511)}
	c.Deadline = c.Ups/2*c.Hedge + c.Tries*c.Wait + r.Intn(1000)
	l := slices.Clone([]string{".", "ex.", "a.ex.", "\\032.", "cdn.", "z\\.z.z."})
	r.Shuffle(len(l), func(i, j int) { l[i], l[j] = l[j], l[i] })
	for _, s := range l[:r.Intn(len(l)+1)] {
		z := zone(s, uint8(1+r.Intn(4)), 0)
		if z.Policy == api.Trusted {
			z.Trust = uint16(1 + r.Intn(1<<c.Ups-1))
		}
		c.Zones = append(c.Zones, z)
	}
	return c
}

// P17.3, P17.6: and back; the order of zones does not matter.
func TestBack(t *testing.T) {
	r := rand.New(rand.NewSource(1))
	for range 1000 {
		c := random(r)
		if e := conf.May(c); e != api.OK {
			t.Fatal(c, e)
		}
		s, e := conf.Show(c)
		if e != api.OK {
			t.Fatal(e)
		}
		back, line, e := conf.Parse(s)
		if !same(back, c) || line != 0 || e != api.OK {
			t.Fatal(back, line, e)
		}
		if again, e := conf.Show(back); again != s || e != api.OK {
			t.Fatalf("%q %v", again, e)
		}
		slices.Reverse(c.Zones)
		if conf.May(c) != api.OK {
			t.Fatal("the order of zones matters")
		}
		c.Zones = append(c.Zones, zone("ex.", 9, 0))
		r.Shuffle(len(c.Zones), func(i, j int) { c.Zones[i], c.Zones[j] = c.Zones[j], c.Zones[i] })
		if conf.May(c) != api.ErrArg {
			t.Fatal("an unknown policy")
		}
		c.Zones = nil
		if conf.May(c) != api.OK {
			t.Fatal("no zone")
		}
		c.Deadline = c.Ups/2*c.Hedge + c.Tries*c.Wait - 1
		if conf.May(c) != api.ErrArg {
			t.Fatal(c)
		}
	}
}

// P17.5: a text that is refused at a line is refused there whatever follows; whatever is accepted is its own text.
func TestFirstWrongLine(t *testing.T) {
	r := rand.New(rand.NewSource(2))
	for range 3000 {
		s, _ := conf.Show(random(r))
		b := []byte(s)
		for range 1 + r.Intn(2) {
			b[r.Intn(len(b))] = "0 1\n.a"[r.Intn(6)]
		}
		s = string(b)
		c, line, e := conf.Parse(s)
		switch e {
		case api.OK:
			if own, e := conf.Show(c); own != s || e != api.OK {
				t.Fatalf("%q: %q %v", s, own, e)
			}
		case api.ErrForm:
			upTo := strings.SplitAfter(s, "\n")
			if line > len(upTo) || !strings.HasSuffix(upTo[line-1], "\n") {
				break
			}
			s = strings.Join(upTo[:line], "")
			for _, more := range []string{"", "x", "\n", "zone ex. strict\n", text} {
				if _, line2, e2 := conf.Parse(s + more); line2 != line || e2 != api.ErrForm {
					t.Fatalf("%q: %d %v, not %d", s+more, line2, e2, line)
				}
			}
			before := strings.Join(upTo[:line-1], "")
			if _, line2, e2 := conf.Parse(before); e2 == api.ErrForm && line2 != line {
				t.Fatalf("%q: %d", before, line2)
			}
		}
	}
}

// R3: arguments stay, and results are new memory.
func TestNewMemory(t *testing.T) {
	c := zones(zone("ex.", api.Strict, 0))
	conf.Show(c)
	conf.May(c)
	if !slices.Equal(c.Zones, []api.Zone{zone("ex.", api.Strict, 0)}) {
		t.Error(c)
	}
	s, _ := conf.Show(c)
	a, _, _ := conf.Parse(s)
	b, _, _ := conf.Parse(s)
	a.Zones[0].Policy = 9
	if b.Zones[0].Policy != api.Strict {
		t.Error("shared")
	}
}
