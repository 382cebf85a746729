package admit

import (
	"cachet/api"
	"cachet/entry"
	"cachet/sign"
)

// check tells whether an entry, whose leaf is handed in, is new and signed as it must be.
func (g *Gate) check(e api.Entry, mark api.Sum) error {
	if g.Has(mark) {
		return api.ErrTwice
	}
	// The keys of all signers are asked ahead of any signature: that one is missing counts more than that another one signed wrongly.
	by, err := g.holders(e)
	if err != nil {
		return err
	}
	return hold(e, by)
}

// holders is the keys by which an entry's signatures are held, in their order.
func (g *Gate) holders(e api.Entry) ([]api.Key, error) {
	if e.Kind == api.Binding {
		if err := g.table.Check(e); err != nil {
			return nil, err
		}
	}
	var all []api.Key
	for _, s := range e.Sigs {
		// The new key of a binding that may come was never bound, so that it isn't spent, and is held by itself.
		k, err := g.table.Key(s)
		if err != nil {
			return nil, err
		}
		all = append(all, k)
	}
	return all, nil
}

// hold tells whether each signature of an entry is right by its key.
func hold(e api.Entry, by []api.Key) error {
	signed, err := entry.Signed(e)
	if err != nil {
		return err
	}
	for i, s := range e.Sigs {
		if !sign.Right(by[i], s.Sig, signed) {
			return api.ErrSig
		}
	}
	return nil
}
