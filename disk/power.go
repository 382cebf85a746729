package disk

import "cachet/api"

// power is what a disk embeds: it counts the steps, and goes ahead of one.
type power struct {
	steps int
	left  int // while armed: how many steps are still done
	armed bool
	gone  bool
}

func (p *power) step(do func()) error {
	if p.armed && p.left == 0 {
		p.gone = true
	}
	if p.gone {
		return api.ErrDown
	}
	if p.armed {
		p.left--
	}
	p.steps++
	do()
	return nil
}

func (p *power) arm(steps int) {
	p.armed, p.left = true, steps
}

func (p *power) restore() {
	*p = power{steps: p.steps}
}
