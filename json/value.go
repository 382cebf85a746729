package json

import (
	"iter"
	"slices"
	"unicode/utf8"

	"cachet/api"
)

// deepest is how many parts may be nested in one another at all. What is
// deeper is left as it is, so that copying a value that holds itself (once)
// ends, too.
const deepest = 1 << 16

// sound tells whether a value, with so many lists and objects around it, is what some text is.
func sound(v api.Value, around int) bool {
	if hasSpare(v) {
		return false
	}
	switch v.Kind {
	case api.Null:
		return true
	case api.Bool:
		return v.Int == 0 || v.Int == 1
	case api.Int:
		return inRange(v.Int)
	case api.Text:
		return utf8.ValidString(v.Text)
	case api.List:
		return around < api.MaxDepth && soundList(v.List, around+1)
	case api.Object:
		return around < api.MaxDepth && soundPairs(v, around+1)
	}
	return false
}

func soundList(list []api.Value, around int) bool {
	return !slices.ContainsFunc(list, func(x api.Value) bool { return !sound(x, around) })
}

func soundPairs(v api.Value, around int) bool {
	for name, x := range pairs(v) {
		if !utf8.ValidString(name) || !sound(x, around) {
			return false
		}
	}
	_, once := places(v.Pairs)
	return once
}

// hasSpare tells whether a value has something that its kind doesn't need.
func hasSpare(v api.Value) bool {
	return v.Int != 0 && v.Kind != api.Bool && v.Kind != api.Int ||
		v.Text != "" && v.Kind != api.Text ||
		len(v.List) > 0 && v.Kind != api.List ||
		len(v.Pairs) > 0 && v.Kind != api.Object
}

func inRange(n int) bool { return -api.MaxInt <= n && n <= api.MaxInt }

// same tells whether two are the same, both of which are what some text is:
// what their kind doesn't need is the same then, and no name stands twice.
func same(a, b api.Value) bool {
	return a.Kind == b.Kind && a.Int == b.Int && a.Text == b.Text &&
		slices.EqualFunc(a.List, b.List, same) && samePairs(a, b)
}

func samePairs(a, b api.Value) bool {
	if len(a.Pairs) != len(b.Pairs) {
		return false
	}
	at, _ := places(b.Pairs)
	for name, x := range pairs(a) {
		i, ok := at[name]
		if !ok || !same(x, b.Pairs[i].Value) {
			return false
		}
	}
	return true
}

// places is where each name stands; false, if one stands twice.
func places(all []api.Pair) (map[string]int, bool) {
	at := make(map[string]int, len(all))
	for i, p := range all {
		at[p.Name] = i
	}
	return at, len(at) == len(all)
}

// pairs goes through an object's pairs; the values are where they stand, not copies.
func pairs(v api.Value) iter.Seq2[string, api.Value] {
	return func(yield func(string, api.Value) bool) {
		if v.Kind != api.Object {
			return
		}
		for _, p := range v.Pairs {
			if !yield(p.Name, p.Value) {
				return
			}
		}
	}
}

// copied is a value in memory of its own, so far down.
func copied(v api.Value, down int) api.Value {
	if down == 0 {
		return v
	}
	v.List = slices.Clone(v.List)
	for i, x := range v.List {
		v.List[i] = copied(x, down-1)
	}
	v.Pairs = slices.Clone(v.Pairs)
	for i, p := range v.Pairs {
		v.Pairs[i].Value = copied(p.Value, down-1)
	}
	return v
}
