package json

import (
	"strconv"
	"strings"

	"cachet/api"
)

const (
	blanks  = " \t\n\r"
	figures = "0123456789"
)

// reader reads a text from its beginning on. Where a method of it answers
// false, the text is refused, and neither what it answers beside nor what is
// left counts any more.
type reader struct {
	rest  string // what isn't read yet
	depth int    // lists and objects that are begun and not ended
}

// value reads a value.
func (r *reader) value() (api.Value, bool) {
	r.skip()
	read := r.how()
	return read()
}

// how is what reads the value that begins here. What begins none is no number either.
func (r *reader) how() func() (api.Value, bool) {
	if r.rest == "" {
		return r.number
	}
	switch r.rest[0] {
	case 'n':
		return r.null
	case 't':
		return r.yes
	case 'f':
		return r.no
	case '"':
		return r.text
	case '[':
		return r.list
	case '{':
		return r.object
	}
	return r.number
}

func (r *reader) null() (api.Value, bool) {
	return api.Value{}, r.take("null")
}

func (r *reader) yes() (api.Value, bool) {
	return api.Value{Kind: api.Bool, Int: 1}, r.take("true")
}

func (r *reader) no() (api.Value, bool) {
	return api.Value{Kind: api.Bool}, r.take("false")
}

// number reads a whole number. Each has just one spelling in the form, which
// is the one that the library writes: no leading 0, no hyphen ahead of 0.
func (r *reader) number() (api.Value, bool) {
	behind := strings.TrimLeft(strings.TrimPrefix(r.rest, "-"), figures)
	spelt := strings.TrimSuffix(r.rest, behind)
	r.rest = behind
	n, err := strconv.Atoi(spelt)
	return api.Value{Kind: api.Int, Int: n}, err == nil && strconv.Itoa(n) == spelt && inRange(n)
}

func (r *reader) text() (api.Value, bool) {
	s, ok := r.quoted()
	return api.Value{Kind: api.Text, Text: s}, ok
}

func (r *reader) list() (api.Value, bool) {
	var list []api.Value
	ok := r.row("[", "]", func() bool {
		v, ok := r.value()
		list = append(list, v)
		return ok
	})
	return api.Value{Kind: api.List, List: list}, ok
}

func (r *reader) object() (api.Value, bool) {
	var all []api.Pair
	ok := r.row("{", "}", func() bool {
		p, ok := r.pair()
		all = append(all, p)
		return ok
	})
	_, once := places(all)
	return api.Value{Kind: api.Object, Pairs: all}, ok && once
}

func (r *reader) pair() (api.Pair, bool) {
	r.skip()
	name, ok := r.quoted()
	if !ok || !r.sign(":") {
		return api.Pair{}, false
	}
	v, ok := r.value()
	return api.Pair{Name: name, Value: v}, ok
}

// row reads what stands between two signs, one by one, with commas between.
func (r *reader) row(begin, end string, one func() bool) bool {
	r.depth++
	defer func() { r.depth-- }()
	if r.depth > api.MaxDepth || !r.sign(begin) {
		return false
	}
	if r.sign(end) {
		return true
	}
	for one() {
		if r.sign(end) {
			return true
		}
		if !r.sign(",") {
			return false
		}
	}
	return false
}

// sign reads a sign, ahead of which blanks may stand.
func (r *reader) sign(s string) bool {
	r.skip()
	return r.take(s)
}

// take reads just what it is told, if that stands here.
func (r *reader) take(s string) bool {
	rest, ok := strings.CutPrefix(r.rest, s)
	r.rest = rest
	return ok
}

func (r *reader) skip() { r.rest = strings.TrimLeft(r.rest, blanks) }

// atEnd tells whether there are but blanks behind.
func (r *reader) atEnd() bool {
	r.skip()
	return r.rest == ""
}
