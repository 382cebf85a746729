package entry

import (
	"strings"

	"cachet/api"
	"cachet/coder"
	"cachet/json"
)

// object is a value that is read as an object, name by name. Once something in it isn't as it must be, it is wrong, and what is read of it doesn't count.
type object struct {
	api.Value
	read  int // how many names were asked for
	wrong bool
}

// end tells whether all that was asked for is there, and nothing else. No name may stand twice, or be asked for twice.
func (o *object) end() error {
	if o.wrong || o.read != len(o.Pairs) {
		return api.ErrKind
	}
	return nil
}

// decoded is what the value of a name is decoded to.
func decoded[T any](o *object, name string, decode func(api.Value) (T, error)) T {
	v, there := json.Get(o.Value, name)
	x, err := decode(v)
	o.read++
	o.wrong = o.wrong || !there || err != nil
	return x
}

// ofText decodes a text.
func ofText[T any](decode func(string) (T, error)) func(api.Value) (T, error) {
	return func(v api.Value) (T, error) {
		if v.Kind != api.Text {
			var none T
			return none, api.ErrKind
		}
		return decode(v.Text)
	}
}

// ofList decodes a list of at least one and of so many at most.
func ofList[T any](most int, decode func(api.Value) (T, error)) func(api.Value) ([]T, error) {
	return func(v api.Value) ([]T, error) {
		if v.Kind != api.List || len(v.List) == 0 || len(v.List) > most {
			return nil, api.ErrKind
		}
		var all []T
		for _, x := range v.List {
			one, err := decode(x)
			if err != nil {
				return nil, err
			}
			all = append(all, one)
		}
		return all, nil
	}
}

// just decodes a text to itself, if it is such a one.
func just(is func(string) bool) func(string) (string, error) {
	return func(s string) (string, error) {
		if !is(s) {
			return "", api.ErrKind
		}
		return s, nil
	}
}

// entryOf reads an entry, whose payload and the order of whose signatures aren't asked.
func entryOf(v api.Value) (api.Entry, error) {
	o := object{Value: v}
	e := api.Entry{
		Kind: decoded(&o, "kind", ofText(kindOf)),
		Sigs: decoded(&o, "sigs", ofList(api.MaxSigs, sigOf)),
	}
	switch e.Kind {
	case api.Artifact:
		e.Digest = decoded(&o, "digest", ofText(coder.Sum))
	case api.Envelope:
		e.Type = decoded(&o, "type", ofText(just(isType)))
		e.Payload = decoded(&o, "payload", ofText(coder.Unbase64))
	case api.Statement:
		e.Payload = decoded(&o, "payload", ofText(coder.Unbase64))
	case api.Binding:
		e.Identity = decoded(&o, "identity", ofText(just(isName)))
		e.Op = decoded(&o, "op", ofText(opOf))
		if e.Op != api.Revoke {
			e.Key = decoded(&o, "key", ofText(keyOf))
		}
	}
	return e, o.end()
}

func sigOf(v api.Value) (api.Sig, error) {
	o := object{Value: v}
	s := decoded(&o, "by", ofText(signerOf))
	s.Sig = decoded(&o, "sig", ofText(coder.Wide))
	return s, o.end()
}

// signerOf is a signature whose signer has that text, without its bytes.
func signerOf(text string) (api.Sig, error) {
	if figures, ok := strings.CutPrefix(text, keyMark); ok {
		k, err := keyOf(figures)
		return api.Sig{Key: k}, err
	}
	name, err := just(isName)(text)
	return api.Sig{Identity: name}, err
}

func keyOf(figures string) (api.Key, error) {
	d, err := coder.Sum(figures)
	return api.Key(d), err
}

func kindOf(word string) (int, error) { return numberOf(word, api.Binding, kindWord) }

func opOf(word string) (int, error) { return numberOf(word, api.Revoke, opWord) }

// numberOf is which number, from 1 to the last one, has a word.
func numberOf(word string, last int, wordOf func(int) string) (int, error) {
	for n := 1; n <= last; n++ {
		if wordOf(n) == word {
			return n, nil
		}
	}
	return 0, api.ErrKind
}
