package fresh_test

import (
	"reflect"
	"testing"

	"hustings/api"
	"hustings/fresh"
)

func verdict() api.Verdict {
	return api.Verdict{Code: 3, Sets: []api.Set{{Name: "a", Type: 1, Class: 2, TTL: 3, Data: []string{"x", "y"}}, {Name: "b"}}, Soa: []api.Set{{Name: "c", Data: []string{"z"}}}}
}

// R3: a copy is the same, and shares nothing.
func TestVerdict(t *testing.T) {
	v := verdict()
	c := fresh.Verdict(v)
	if !reflect.DeepEqual(c, v) {
		t.Error(c)
	}
	c.Sets[0].Name, c.Sets[0].Data[0], c.Soa[0].TTL, c.Soa[0].Data[0] = "q", "q", 9, "q"
	if !reflect.DeepEqual(v, verdict()) {
		t.Error("shared", v)
	}
	s := fresh.Set(v.Sets[0])
	s.Data[1] = "q"
	l := fresh.Sets(v.Sets)
	l[0].Data[0], l[1].Name = "q", "q"
	if !reflect.DeepEqual(v, verdict()) {
		t.Error("shared", v)
	}
	if c := fresh.Verdict(api.Verdict{}); len(c.Sets) != 0 || len(c.Soa) != 0 || c.Code != 0 {
		t.Error(c)
	}
}
