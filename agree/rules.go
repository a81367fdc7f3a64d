package agree

import "sandglass/api"

// settle lets the first rule that applies do its work, again and again, until none does.
func (a *Agree) settle() {
	for a.decide() || a.follow() || a.answer() || a.choose() || a.pass() {
		if a.decision != "" {
			return
		}
	}
}

// decide is rule 1: what is proposed in a round, whichever, and has Most of its precommits is decided.
func (a *Agree) decide() bool {
	for round, p := range a.proposals {
		if p.value != "" && a.most(api.WordPrecommit, round, p.value) {
			a.decision = p.value
			// Nothing is taken any more: what words were held against has done its work.
			a.value, a.valid, a.proposals, a.votes = "", choice{}, [api.MaxRound]proposal{}, nil
			return true
		}
	}
	return false
}

// follow is rule 2: a round beyond, in which more nodes vote than may be wrong, begins.
func (a *Agree) follow() bool {
	next := a.votes.Ahead(a.round)
	if next < 0 {
		return false
	}
	a.begin(next)
	return true
}

// answer is rules 3 and 4: the round's proposal gets a prevote, one of no value, if a lock forbids its own. Without a lock the lock's round is -1, and at most any Valid; so rule 4's words on the lock say what rule 3's do.
func (a *Agree) answer() bool {
	p := a.proposals[a.round]
	if a.step != api.StepPropose || p.value == "" || p.valid >= 0 && !a.most(api.WordPrevote, p.valid, p.value) {
		return false
	}
	if a.lock.round <= p.valid || a.lock.value == p.value {
		a.prevote(p.value)
	} else {
		a.prevote("")
	}
	return true
}

// choose is rule 5: what is proposed in the round and has Most of its prevotes is the valid value, once in a round; in StepPrevote the node is locked on it, too.
func (a *Agree) choose() bool {
	p := a.proposals[a.round]
	if a.step == api.StepPropose || a.valid.round == a.round || p.value == "" || !a.most(api.WordPrevote, a.round, p.value) {
		return false
	}
	a.valid = choice{p.value, a.round}
	if a.step == api.StepPrevote {
		a.lock = a.valid
		a.precommit(p.value)
	}
	return true
}

// pass is rule 6: when Most of the round's prevotes is no value, so is the precommit.
func (a *Agree) pass() bool {
	if a.step != api.StepPrevote || !a.most(api.WordPrevote, a.round, "") {
		return false
	}
	a.precommit("")
	return true
}

// most tells whether the value has Most of the votes of that kind and round.
func (a *Agree) most(kind, round int, value string) bool {
	winner, is := a.votes.Most(kind, round)
	return is && winner == value
}
