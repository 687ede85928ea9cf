// Package fresh makes copies of sets and verdicts that share no memory with them.
package fresh

import (
	"slices"

	"hustings/api"
)

// Set returns a copy of a set.
func Set(s api.Set) api.Set {
	s.Data = slices.Clone(s.Data)
	return s
}

// Sets returns a copy of a list of sets.
func Sets(l []api.Set) []api.Set {
	var out []api.Set
	for _, s := range l {
		out = append(out, Set(s))
	}
	return out
}

// Verdict returns a copy of a verdict.
func Verdict(v api.Verdict) api.Verdict {
	return api.Verdict{Code: v.Code, Sets: Sets(v.Sets), Soa: Sets(v.Soa)}
}
