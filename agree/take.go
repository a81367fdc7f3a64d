package agree

import (
	"strings"

	"sandglass/api"
)

// count keeps of w what counts. A word that may not be changes nothing, so that no rule applies behind it, either.
func (a *Agree) count(w api.Word) {
	switch w.Kind {
	case api.WordProposal:
		a.propose(w)
	case api.WordPrevote, api.WordPrecommit:
		// Put looks at all but Valid.
		if w.Valid == 0 {
			a.votes.Put(w)
		}
	case api.WordTimeout:
		if w.Round == a.round {
			a.timeout(w.Valid)
		}
	}
}

// propose keeps a proposal that may be, if it comes from its round's Leader and is that round's first one.
func (a *Agree) propose(w api.Word) {
	if w.Round < 0 || w.Round >= api.MaxRound || w.Valid < -1 || w.Valid >= w.Round || w.Value == "" || len(w.Value) > api.MaxBody {
		return
	}
	if w.From == Leader(a.n, a.height, w.Round) && a.proposals[w.Round].value == "" {
		a.proposals[w.Round] = proposal{strings.Clone(w.Value), w.Valid}
	}
}

// timeout ends the wait of a step of the node's round.
func (a *Agree) timeout(step int) {
	switch {
	case step == api.StepPropose && a.step == api.StepPropose:
		a.prevote("")
	case step == api.StepPrevote && a.step == api.StepPrevote:
		a.precommit("")
	case step == api.StepPrecommit:
		a.begin(a.round + 1)
	}
}

// begin goes to the first step of that round, unless it is beyond the last one. The Leader proposes what had Most of the prevotes last, so that who is locked on it can follow.
func (a *Agree) begin(round int) {
	if round >= api.MaxRound {
		return
	}
	a.round, a.step = round, api.StepPropose
	if a.me != Leader(a.n, a.height, round) {
		return
	}
	if a.valid.round < 0 {
		a.say(api.WordProposal, -1, a.value)
	} else {
		a.say(api.WordProposal, a.valid.round, a.valid.value)
	}
}

func (a *Agree) prevote(value string) {
	a.say(api.WordPrevote, 0, value)
	a.step = api.StepPrevote
}

func (a *Agree) precommit(value string) {
	a.say(api.WordPrecommit, 0, value)
	a.step = api.StepPrecommit
}
