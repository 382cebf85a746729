package keys

import (
	"slices"

	"cachet/api"
	"cachet/coder"
	"cachet/entry"
	"cachet/sum"
)

// ofSigs is the keys of the signers of an entry.
func ofSigs(sigs []api.Sig) []string {
	var all []string
	for _, s := range sigs {
		if s.Identity != "" {
			all = append(all, Identity(s.Identity))
		} else {
			all = append(all, Key(s.Key))
		}
	}
	return all
}

// ofBody is the keys of what an entry has beside its signatures.
func ofBody(e api.Entry) []string {
	var all []string
	switch e.Kind {
	case api.Artifact:
		all = append(all, Digest(e.Digest))
	case api.Statement:
		all = ofSubjects(e.Payload)
		fallthrough
	case api.Envelope:
		all = append(all, Digest(sum.Short(e.Payload)))
	case api.Binding:
		all = append(all, Identity(e.Identity))
		if e.Op != api.Revoke {
			all = append(all, Key(e.Key))
		}
	}
	return all
}

// ofSubjects is the keys of what a statement is about.
func ofSubjects(payload []byte) []string {
	// The entry was checked, so that its payload is a statement's text.
	subjects, _ := entry.Subjects(payload)
	var all []string
	for _, s := range subjects {
		all = append(all, Digest(s.Digest))
	}
	return all
}

// rising is keys, each one once, by their bytes. It takes over the list.
func rising(all []string) []string {
	slices.Sort(all)
	return slices.Compact(all)
}

// isName tells whether a text is a name. Layer 15 says what a name is, but has no call that tells just that: it is what can be revoked.
func isName(s string) bool {
	return entry.Check(api.Entry{Kind: api.Binding, Op: api.Revoke, Identity: s, Sigs: []api.Sig{{}}}) == nil
}

// isFigures tells whether a text is the hex of a digest, or of a key, which has as many bytes.
func isFigures(s string) bool {
	_, err := coder.Sum(s)
	return err == nil
}
