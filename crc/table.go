package crc

// divisor is put to a register that a 1 has left.
const divisor = 0xedb88320

// step is how many bits the register is shifted by at once: a table for whole
// bytes would take longer to make than most records take to go through.
const step = 4

// table tells, by the lowest bits of a register, what all the shifts of a step
// put to it. That hangs on these bits alone: those above them only move down.
type table [1 << step]uint32

func makeTable() table {
	var t table
	for i := range t {
		t[i] = shift(uint32(i), step)
	}
	return t
}

// shift moves a register on, bit by bit.
func shift(reg uint32, bits int) uint32 {
	for range bits {
		low := reg & 1
		reg >>= 1
		if low == 1 {
			reg ^= divisor
		}
	}
	return reg
}

// take puts bytes to a register. All bits of a byte may be put to it at once:
// each comes down to the register's lowest bit just when it is its turn.
func (t *table) take(reg uint32, b []byte) uint32 {
	for _, c := range b {
		reg ^= uint32(c)
		reg = t.move(reg)
		reg = t.move(reg)
	}
	return reg
}

// move shifts a register by one step.
func (t *table) move(reg uint32) uint32 {
	return reg>>step ^ t[reg%(1<<step)]
}
