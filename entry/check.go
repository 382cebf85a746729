package entry

import (
	"strings"

	"cachet/api"
)

const (
	// maxPayload is how many bytes a payload may have.
	maxPayload = 2048
	// nameSigns are the signs that names are made of.
	nameSigns = "abcdefghijklmnopqrstuvwxyz0123456789.-_@"
	// ownTypes begins the types by which the log itself has texts signed: no envelope's signature may pass for one of these.
	ownTypes = "cachet/"
	// keyMark stands ahead of a key in a signer's text. No name has its colon.
	keyMark = "key:"
)

// The types of what is signed, where it isn't the entry's own.
const (
	artifactType  = ownTypes + "artifact"
	bindingType   = ownTypes + "binding"
	statementType = "application/vnd.in-toto+json"
)

// own is an entry with what its kind has, and nothing else.
func own(e api.Entry) api.Entry {
	out := api.Entry{Kind: e.Kind, Sigs: e.Sigs}
	switch e.Kind {
	case api.Artifact:
		out.Digest = e.Digest
	case api.Envelope:
		out.Type, out.Payload = e.Type, e.Payload
	case api.Statement:
		out.Payload = e.Payload
	case api.Binding:
		out.Op, out.Identity = e.Op, e.Identity
		if e.Op != api.Revoke {
			out.Key = e.Key
		}
	}
	return out
}

// hasBody tells whether what an entry has beside its signatures is as its kind asks.
func hasBody(e api.Entry) bool {
	switch e.Kind {
	case api.Artifact:
		return true
	case api.Envelope:
		return isType(e.Type) && len(e.Payload) <= maxPayload
	case api.Statement:
		_, err := Subjects(e.Payload)
		return err == nil
	case api.Binding:
		return api.Bind <= e.Op && e.Op <= api.Revoke && isName(e.Identity)
	}
	return false
}

// areSigs tells whether signatures are as an entry has them.
func areSigs(all []api.Sig) bool {
	if len(all) == 0 || len(all) > api.MaxSigs {
		return false
	}
	for i, s := range all {
		if !hasSigner(s) || i > 0 && Signer(all[i-1]) >= Signer(s) {
			return false
		}
	}
	return true
}

// hasSigner tells whether a signature is by an identity or by a key, and not by both. A key of noughts is one, too.
func hasSigner(s api.Sig) bool {
	return s.Identity == "" || isName(s.Identity) && s.Key == api.Key{}
}

func isName(s string) bool {
	return isShort(s) && strings.Trim(s, nameSigns) == ""
}

func isType(s string) bool {
	other := func(c rune) bool { return c < '!' || c > '~' }
	return isShort(s) && !strings.ContainsFunc(s, other) && !strings.HasPrefix(s, ownTypes)
}

// isShort tells whether a text has as many bytes as names may have.
func isShort(s string) bool {
	return s != "" && len(s) <= api.MaxName
}
