package curve

import (
	"cachet/api"
	"cachet/field"
)

// shared is a point whose elements are x / z and y / z; their product is xy / z.
// Sums of such points need no quotients, which take long: one is enough at the end.
type shared struct{ x, y, z, xy field.Elem }

func (p Point) shared() shared {
	y := p.y()
	return shared{p.x, y, field.Int(1), p.x.Times(y)}
}

func (p shared) point() Point {
	share := field.Int(1).Over(p.z)
	return at(p.x.Times(share), p.y.Times(share))
}

// law is how points are added, with the curve's number d at hand.
type law struct{ d field.Elem }

func theLaw() law { return law{curveNumber()} }

// curveNumber is -121665 / 121666, written out, since a quotient takes long.
func curveNumber() field.Elem {
	return field.Of(api.Key{
		0xa3, 0x78, 0x59, 0x13, 0xca, 0x4d, 0xeb, 0x75, 0xab, 0xd8, 0x41, 0x41, 0x4d, 0x0a, 0x70, 0x00,
		0x98, 0xe8, 0x79, 0x77, 0x79, 0x40, 0xc7, 0x8c, 0x73, 0xfe, 0x6f, 0x2b, 0xee, 0x6c, 0x03, 0x52,
	})
}

// sum adds two points, alike or not: d is no square, so that neither 1 + d x1 x2 y1 y2
// nor 1 - d x1 x2 y1 y2 is ever 0. All is reckoned twice as great as the chapter's
// parts are: so the two products less and more give x1 y2 + y1 x2 and y1 y2 + x1 x2
// by a difference and a sum.
func (l law) sum(p, q shared) shared {
	less := p.y.Minus(p.x).Times(q.y.Minus(q.x))
	more := p.y.Plus(p.x).Times(q.y.Plus(q.x))
	one := twice(p.z.Times(q.z))
	product := twice(p.xy.Times(q.xy).Times(l.d))
	topX, topY := more.Minus(less), more.Plus(less)
	underX, underY := one.Plus(product), one.Minus(product)
	return shared{
		x:  topX.Times(underY),
		y:  topY.Times(underX),
		z:  underX.Times(underY),
		xy: topX.Times(topY),
	}
}

func twice(a field.Elem) field.Elem { return a.Plus(a) }
