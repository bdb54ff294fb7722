package perform

import (
	"bellwether/api"
	"bellwether/outcome"
)

// mayBe: may a performative be, as far as its value does not tell?
func mayBe(p api.Perform) bool {
	if p.Kind < api.PerOpen || p.Kind > api.PerClose {
		return false
	}
	// What a kind does not have is zero, and then right.
	return p.Snd <= maxSnd && p.Rcv <= maxRcv && isTag(p.Tag) && isState(p.State) && isCond(p.Cond) &&
		areMarks(p.Marks) && isNothing(theNine()[p.Kind-api.PerOpen].rest(p))
}

func isTag(tag string) bool { return len(tag) <= api.MaxTag }

func isState(o api.Outcome) bool {
	_, e := outcome.Put(o)
	return e == api.OK
}

func isCond(cond string) bool {
	_, e := outcome.PutCond(cond)
	return e == api.OK
}

func areMarks(l []api.Mark) bool {
	for _, m := range l {
		if !isTag(m.Tag) || !isState(m.State) {
			return false
		}
	}
	return true
}

// isNothing: are all fields of a performative zero, whatever its kind is?
func isNothing(p api.Perform) bool {
	open := p.Id == "" && p.Host == "" && p.MaxFrame == 0 && p.Channels == 0 && p.Idle == 0
	begin := p.Remote == 0 && p.NextOut == 0 && p.InWin == 0 && p.OutWin == 0 && p.Handles == 0
	attach := p.Name == "" && p.Handle == 0 && !p.Role && p.Snd == 0 && p.Rcv == 0 &&
		p.Source == "" && p.Target == "" && len(p.Marks) == 0 && p.Count == 0
	flow := p.NextIn == 0 && p.Credit == 0 && !p.Drain && !p.Echo
	transfer := p.First == 0 && p.Last == 0 && p.Tag == "" && !p.Settled && !p.More && !p.Aborted && !p.Resume &&
		p.State == (api.Outcome{}) && len(p.Payload) == 0
	return open && begin && attach && flow && transfer && !p.Closed && p.Cond == ""
}
