package entry

import (
	"cachet/api"
	"cachet/canon"
	"cachet/coder"
)

// body is the pairs of an entry's value without its signatures.
func body(e api.Entry) []api.Pair {
	all := []api.Pair{textPair("kind", kindWord(e.Kind))}
	switch e.Kind {
	case api.Artifact:
		all = append(all, textPair("digest", coder.Hex(e.Digest[:])))
	case api.Envelope:
		all = append(all, textPair("type", e.Type), textPair("payload", coder.Base64(e.Payload)))
	case api.Statement:
		all = append(all, textPair("payload", coder.Base64(e.Payload)))
	case api.Binding:
		all = append(all, textPair("identity", e.Identity), textPair("op", opWord(e.Op)))
		if e.Op != api.Revoke {
			all = append(all, textPair("key", coder.Hex(e.Key[:])))
		}
	}
	return all
}

func sigsValue(all []api.Sig) api.Value {
	out := api.Value{Kind: api.List}
	for _, s := range all {
		out.List = append(out.List, objectOf(textPair("by", Signer(s)), textPair("sig", coder.Base64(s.Sig[:]))))
	}
	return out
}

// objectOf is an object. Its pairs stand as in its canonical text, so that the value of a text that was put is field by field the one that it was put of.
func objectOf(all ...api.Pair) api.Value {
	return canon.Sorted(api.Value{Kind: api.Object, Pairs: all})
}

func textPair(name, text string) api.Pair {
	return api.Pair{Name: name, Value: api.Value{Kind: api.Text, Text: text}}
}

// kindWord is the word of a kind of entries.
func kindWord(kind int) string {
	switch kind {
	case api.Artifact:
		return "artifact"
	case api.Envelope:
		return "envelope"
	case api.Statement:
		return "statement"
	case api.Binding:
		return "binding"
	}
	return ""
}

// opWord is the word of what a binding does.
func opWord(op int) string {
	switch op {
	case api.Bind:
		return "bind"
	case api.Rotate:
		return "rotate"
	case api.Revoke:
		return "revoke"
	}
	return ""
}
