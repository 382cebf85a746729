package entry

import (
	"bytes"
	"encoding/base64"
	"encoding/hex"
	stdjson "encoding/json"
	"fmt"
	"maps"
	"reflect"
	"regexp"
	"slices"
	"strings"
	"testing"

	"cachet/api"
	"cachet/json"
)

// The chapter's words done another way: by patterns and by the language's own library.

var (
	plainNames = regexp.MustCompile(`\A[-a-z0-9._@]{1,64}\z`)
	plainTypes = regexp.MustCompile(`\A[!-~]{1,64}\z`)
	plainHexes = regexp.MustCompile(`\A[0-9a-f]{64}\z`)
)

func plainType(s string) bool { return plainTypes.MatchString(s) && !strings.HasPrefix(s, "cachet/") }

// plainEntry tells whether an entry is one.
func plainEntry(e api.Entry) bool {
	has := map[int]string{api.Artifact: " Kind Sigs Digest ", api.Envelope: " Kind Sigs Type Payload ", api.Statement: " Kind Sigs Payload ", api.Binding: " Kind Sigs Op Identity Key "}[e.Kind]
	if e.Kind == api.Binding && e.Op == api.Revoke {
		has = " Kind Sigs Op Identity "
	}
	fields := reflect.ValueOf(e)
	for i := range fields.NumField() {
		f := fields.Field(i)
		if !strings.Contains(has, " "+fields.Type().Field(i).Name+" ") && !f.IsZero() && (f.Kind() != reflect.Slice || f.Len() > 0) {
			return false
		}
	}
	var by []string
	for _, s := range e.Sigs {
		if s.Identity != "" && (!plainNames.MatchString(s.Identity) || s.Key != api.Key{}) {
			return false
		}
		by = append(by, plainSigner(s))
	}
	if len(by) < 1 || len(by) > 8 || !slices.IsSorted(by) || len(slices.Compact(by)) != len(e.Sigs) {
		return false
	}
	switch e.Kind {
	case api.Artifact:
		return true
	case api.Envelope:
		return plainType(e.Type) && len(e.Payload) < 2049
	case api.Statement:
		_, ok := plainSubjects(e.Payload)
		return ok
	case api.Binding:
		return plainNames.MatchString(e.Identity) && (e.Op == 1 || e.Op == 2 || e.Op == 3)
	}
	return false
}

func plainSigner(s api.Sig) string {
	if s.Identity == "" {
		return fmt.Sprintf("key:%x", s.Key)
	}
	return s.Identity
}

// plainSubjects is the subjects of a statement, and whether it is one.
func plainSubjects(payload []byte) ([]api.Subject, bool) {
	var v any
	if _, err := json.Parse(payload); err != nil || len(payload) > 2048 || stdjson.Unmarshal(payload, &v) != nil {
		return nil, false
	}
	m, ok := plainHas(v, "_type", "predicate", "predicateType", "subject")
	if !ok || m["_type"] != "https://in-toto.io/Statement/v1" {
		return nil, false
	}
	_, isMap := m["predicate"].(map[string]any)
	kind, isText := m["predicateType"].(string)
	all, isList := m["subject"].([]any)
	if !isMap || !isText || !isList || !plainType(kind) || len(all) < 1 || len(all) > 16 {
		return nil, false
	}
	var out []api.Subject
	for _, x := range all {
		s, ok := plainHas(x, "digest", "name")
		if !ok {
			return nil, false
		}
		name, isText := s["name"].(string)
		d, ok := plainHas(s["digest"], "sha256")
		hash, isHash := d["sha256"].(string)
		if !isText || !ok || !isHash || len(name) < 1 || len(name) > 64 || !plainHexes.MatchString(hash) {
			return nil, false
		}
		b, _ := hex.DecodeString(hash)
		out = append(out, api.Subject{Name: name, Digest: api.Sum(b)})
	}
	return out, true
}

// plainHas is an object with just these names, and whether it is one.
func plainHas(v any, names ...string) (map[string]any, bool) {
	m, ok := v.(map[string]any)
	return m, ok && slices.Equal(slices.Sorted(maps.Keys(m)), names)
}

// plainFields is an entry's value without its signatures, as the library has it.
func plainFields(e api.Entry) map[string]any {
	m := map[string]any{"kind": []string{"", "artifact", "envelope", "statement", "binding"}[e.Kind]}
	switch e.Kind {
	case api.Artifact:
		m["digest"] = hex.EncodeToString(e.Digest[:])
	case api.Envelope:
		m["type"] = e.Type
		m["payload"] = base64.StdEncoding.EncodeToString(e.Payload)
	case api.Statement:
		m["payload"] = base64.StdEncoding.EncodeToString(e.Payload)
	case api.Binding:
		m["identity"] = e.Identity
		m["op"] = []string{"", "bind", "rotate", "revoke"}[e.Op]
		if e.Op < 3 {
			m["key"] = hex.EncodeToString(e.Key[:])
		}
	}
	return m
}

// plainText is the text of an entry, which is one, whatever its size.
func plainText(e api.Entry) string {
	m := plainFields(e)
	sigs := []any{}
	for _, s := range e.Sigs {
		sigs = append(sigs, map[string]any{"by": plainSigner(s), "sig": base64.StdEncoding.EncodeToString(s.Sig[:])})
	}
	m["sigs"] = sigs
	return plainJSON(m)
}

// plainJSON is a text by the library, which sorts the names of a map by their bytes.
func plainJSON(v any) string {
	var out bytes.Buffer
	enc := stdjson.NewEncoder(&out)
	enc.SetEscapeHTML(false)
	if err := enc.Encode(v); err != nil {
		panic(err)
	}
	return strings.TrimSuffix(out.String(), "\n")
}

// plainSigned is what is signed of an entry, which is one.
func plainSigned(e api.Entry) []byte {
	kind, payload := "", e.Payload
	switch e.Kind {
	case api.Artifact:
		kind, payload = "cachet/artifact", e.Digest[:]
	case api.Envelope:
		kind = e.Type
	case api.Statement:
		kind = "application/vnd.in-toto+json"
	case api.Binding:
		kind, payload = "cachet/binding", []byte(plainJSON(plainFields(e)))
	}
	return fmt.Appendf(nil, "DSSEv1 %d %s %d %s", len(kind), kind, len(payload), payload)
}

// plainValue is a value, which is what some text is, as the library has it.
func plainValue(v api.Value) any {
	switch v.Kind {
	case api.Bool:
		return v.Int == 1
	case api.Int:
		return v.Int
	case api.Text:
		return v.Text
	case api.List:
		all := []any{}
		for _, x := range v.List {
			all = append(all, plainValue(x))
		}
		return all
	case api.Object:
		all := map[string]any{}
		for _, p := range v.Pairs {
			all[p.Name] = plainValue(p.Value)
		}
		return all
	}
	return nil
}

// plainOf is the entry of a value, and whether there is one: whatever can be read out of it, its text must be that of the value.
func plainOf(v api.Value) (api.Entry, bool) {
	if json.Check(v) != nil {
		return api.Entry{}, false
	}
	text := plainJSON(plainValue(v))
	var m struct {
		Kind, Digest, Type, Payload, Identity, Op, Key string
		Sigs                                           []struct{ By, Sig string }
	}
	if stdjson.Unmarshal([]byte(text), &m) != nil {
		return api.Entry{}, false
	}
	e := api.Entry{
		Kind:     slices.Index([]string{"", "artifact", "envelope", "statement", "binding"}, m.Kind),
		Type:     m.Type,
		Identity: m.Identity,
		Op:       slices.Index([]string{"", "bind", "rotate", "revoke"}, m.Op),
	}
	e.Payload, _ = base64.StdEncoding.DecodeString(m.Payload)
	hex.Decode(e.Digest[:], []byte(m.Digest + strings.Repeat("0", 64))[:64])
	hex.Decode(e.Key[:], []byte(m.Key + strings.Repeat("0", 64))[:64])
	for _, x := range m.Sigs {
		s := api.Sig{Identity: x.By}
		if strings.HasPrefix(x.By, "key:") {
			s.Identity = ""
			hex.Decode(s.Key[:], []byte(x.By[4:] + strings.Repeat("0", 64))[:64])
		}
		b, _ := base64.StdEncoding.DecodeString(x.Sig)
		copy(s.Sig[:], b)
		e.Sigs = append(e.Sigs, s)
	}
	if !plainEntry(e) || plainText(e) != text {
		return api.Entry{}, false
	}
	return e, true
}

// holds asks about an entry, whatever it is.
func holds(t *testing.T, e api.Entry) bool {
	t.Helper()
	if !plainEntry(e) {
		isNone(t, e)
		return false
	}
	isOne(t, e)
	return true
}

// holdsValue asks about a value, whatever it is, and about its text.
func holdsValue(t *testing.T, v api.Value) bool {
	t.Helper()
	e, ok := plainOf(v)
	if !ok {
		noValue(t, v)
		return false
	}
	got, err := Of(v)
	if err != nil || !sameEntry(got, e) {
		fault(t, "Of %v: %v, %v", v, got, err)
	}
	return true
}
