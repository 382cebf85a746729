package bind

import (
	"slices"

	"cachet/api"
	"cachet/entry"
)

// fate is what became of a key.
type fate int

const (
	unbound fate = iota // it was never bound
	bound
	spent
)

func isBinding(e api.Entry) bool {
	return e.Kind == api.Binding && entry.Check(e) == nil
}

// givesKey tells whether a binding gives its identity a key.
func givesKey(e api.Entry) bool { return e.Op != api.Revoke }

// mayCome tells whether a binding may come, whoever signs it.
func (t *Table) mayCome(e api.Entry) bool {
	_, has := t.Bound(e.Identity)
	if has != (e.Op != api.Bind) {
		return false
	}
	return !givesKey(e) || t.fate(e.Key) == unbound
}

// signedRightly tells whether just those sign a binding who must.
func signedRightly(e api.Entry) bool {
	is := func(s api.Sig, text string) bool { return entry.Signer(s) == text }
	return slices.EqualFunc(e.Sigs, signers(e), is)
}

// signers is the texts of those who must sign a binding, rising as its signatures do.
func signers(e api.Entry) []string {
	var all []string
	if e.Op != api.Bind {
		all = append(all, entry.Signer(api.Sig{Identity: e.Identity}))
	}
	if givesKey(e) {
		all = append(all, entry.Signer(api.Sig{Key: e.Key}))
	}
	slices.Sort(all)
	return all
}
