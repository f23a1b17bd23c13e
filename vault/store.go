package vault

import "conclave/api"

// upTo: is a number from 0 to the greatest one that may be?
func upTo(number, greatest int) bool { return number >= 0 && number <= greatest }

// done: what a command that may be makes of a store that may be, and its answer.
func done(s api.Store, c api.Command) (api.Store, api.Answer) {
	if c.Kind == api.Noop {
		return s, api.Answer{} // it is no client's, though its Client is 0
	}
	last := s.Last[c.Client]
	switch {
	case last == c.Seq+1: // it came again, perhaps since its answer was lost
		return s, s.Answers[c.Client]
	case last > c.Seq:
		return s, api.Answer{Code: api.ErrOld}
	case s.Revoked[c.Client]:
		return s, api.Answer{Code: api.ErrRight}
	}
	return doneAnew(s, c)
}

// doneAnew: the same for a client's command that is done now, and not again.
func doneAnew(s api.Store, c api.Command) (api.Store, api.Answer) {
	var answer api.Answer
	switch c.Kind {
	case api.Put:
		s.Values[c.Name] = c.Value
		answer.Value = c.Value
	case api.Get:
		answer.Value = s.Values[c.Name]
	case api.Revoke:
		s.Revoked[c.Name] = true
	}
	s.Last[c.Client] = c.Seq + 1
	s.Answers[c.Client] = answer
	return s, answer
}
