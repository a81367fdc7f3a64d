package vault

import (
	"slices"

	"sandglass/api"
	"sandglass/dkg"
	"sandglass/gather"
)

// epoch is what there is of one epoch of the batch.
type epoch struct {
	mine    []api.Share    // the node's own, of each chosen dealer, in order
	commits [][]api.Point  // of each chosen dealer, too
	coming  *gather.Gather // the shares that came in
}

// mayChoose tells whether there is a chosen dealer, they rise, each is the place of a deal that serves me, and all of these have as many epochs.
func mayChoose(n, t, me int, deals []api.Deal, chosen []int) bool {
	for i, dealer := range chosen {
		if dealer < 1 || dealer > len(deals) || i > 0 && dealer <= chosen[i-1] {
			return false
		}
		first, deal := deals[chosen[0]-1], deals[dealer-1]
		if len(deal.Commits) != len(first.Commits) || !dkg.Check(n, t, deal, me) {
			return false
		}
	}
	return len(chosen) > 0
}

// batch answers the epochs of dealers that may be chosen, without gatherings.
func batch(me int, deals []api.Deal, chosen []int) []epoch {
	epochs := make([]epoch, len(deals[chosen[0]-1].Commits))
	for i := range epochs {
		e := &epochs[i]
		for _, dealer := range chosen {
			e.commits = append(e.commits, slices.Clone(deals[dealer-1].Commits[i]))
		}
		// There is nothing to refuse: Check has looked at all of these.
		values, _ := dkg.Mine(deals, chosen, i, me)
		for _, value := range values {
			e.mine = append(e.mine, api.Share{At: me, V: value})
		}
	}
	return epochs
}

// held answers that epoch: errBatch, if it is none of the batch, or there is no vault; errPruned.
func (v *Vault) held(at int) (epoch, error) {
	if v == nil || at < 0 || at >= len(v.epochs) {
		return epoch{}, errBatch
	}
	if at <= v.catalogue.Pruned() {
		return epoch{}, errPruned
	}
	return v.epochs[at], nil
}

// due answers that epoch, if its time has come: held's errors, and errEarly.
func (v *Vault) due(at int) (epoch, error) {
	e, err := v.held(at)
	if err != nil {
		return epoch{}, err
	}
	if !v.gate.Open(at) {
		return epoch{}, errEarly
	}
	return e, nil
}
