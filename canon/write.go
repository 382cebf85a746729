package canon

import (
	"strconv"
	"strings"

	"cachet/api"
)

// comma is the sign between those of a row.
const comma rune = ','

// writer writes a text, while there is room for it; behind that it only knows that it is over.
type writer struct {
	out  []byte
	over bool
}

// value writes a value that is what some text is, and sorted.
func (w *writer) value(v api.Value) {
	switch v.Kind {
	case api.Null:
		w.add("null")
	case api.Bool:
		w.add(strconv.FormatBool(v.Int == 1))
	case api.Int:
		w.add(strconv.Itoa(v.Int))
	case api.Text:
		w.quoted(v.Text)
	case api.List:
		row(w, '[', ']', v.List, w.value)
	case api.Object:
		row(w, '{', '}', v.Pairs, w.pair)
	}
}

func (w *writer) pair(p api.Pair) {
	w.quoted(p.Name)
	w.sign(':')
	w.value(p.Value)
}

// row writes some between two signs, one behind the other.
func row[T any](w *writer, open, shut rune, all []T, write func(T)) {
	w.sign(open)
	for i, x := range all {
		if i > 0 {
			w.sign(comma)
		}
		write(x)
	}
	w.sign(shut)
}

func (w *writer) quoted(s string) {
	// Quoting makes no text shorter, and a long one would be made for nothing.
	if len(s) > api.MaxText {
		w.over = true
		return
	}
	w.add(Quote(s))
}

func (w *writer) sign(c rune) {
	w.add(string(c))
}

func (w *writer) add(s string) {
	w.over = w.over || len(s) > api.MaxText-len(w.out)
	if !w.over {
		w.out = append(w.out, s...)
	}
}

// escape writes a byte of a text as it stands between quotation marks.
func escape(out *strings.Builder, c byte) {
	switch c {
	case '"', '\\':
		out.WriteByte('\\')
		out.WriteByte(c)
	case '\b':
		out.WriteString(`\b`)
	case '\t':
		out.WriteString(`\t`)
	case '\n':
		out.WriteString(`\n`)
	case '\f':
		out.WriteString(`\f`)
	case '\r':
		out.WriteString(`\r`)
	default:
		plain(out, c)
	}
}

// plain writes a byte that has no short form: as it is, or by its figures.
func plain(out *strings.Builder, c byte) {
	const figures = "0123456789abcdef"
	if c >= ' ' {
		out.WriteByte(c)
		return
	}
	out.WriteString(`\u00`)
	out.WriteByte(figures[c>>4])
	out.WriteByte(figures[c&15])
}
