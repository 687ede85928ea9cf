package ask

import (
	"hustings/api"
	"hustings/merge"
)

// A policy says by what an inquiry is decided, and how much hope its ballots give.
type policy interface {
	// decided reports whether it is, and notes by what.
	decided(a *Ask, did *Did) bool
	hope(a *Ask) int
}

type (
	strict  struct{}
	union   struct{}
	trusted struct{}
)

// policyOf returns what a zone's policy stands for, or nil.
func policyOf(number uint8) policy {
	switch number {
	case api.Strict:
		return strict{}
	case api.Union:
		return union{}
	case api.Trusted:
		return trusted{}
	}
	return nil
}

func (strict) decided(a *Ask, did *Did) bool {
	v, time, by, is := a.box.Won()
	if is {
		did.Verdict, did.Time = v, time
		did.Agree, did.Dissent = by, a.box.Against()
	}
	return is
}

func (strict) hope(a *Ask) int {
	return a.box.Most()
}

func (union) decided(a *Ask, did *Did) bool {
	votes := a.box.Votes()
	if len(votes) < a.want {
		return false
	}
	v, time, is := merge.Union(a.question, votes)
	did.Verdict, did.Time = v, time
	return is
}

func (union) hope(a *Ask) int {
	return len(a.box.Votes())
}

func (trusted) decided(a *Ask, did *Did) bool {
	votes := a.box.Votes()
	if len(votes) == 0 {
		return false
	}
	did.Verdict, did.Time = votes[0].Verdict, votes[0].Time
	return true
}

func (trusted) hope(a *Ask) int {
	return len(a.box.Votes())
}
