package segs

import (
	"strings"

	"cachet/api"
	"cachet/crc"
	"cachet/disk"
	"cachet/frame"
)

const (
	smallest = 64
	largest  = 1 << 20 // bytes of a segment
)

// Open is the store of a disk.
func Open(d *disk.Disk, size int) (*Store, error) {
	if size < smallest || size > largest {
		return nil, api.ErrRange
	}
	s := &Store{disk: d, size: size}
	err := inOrder(s.powered, s.dropMaking, s.readManifest, s.readAhead, s.readLast, s.dropBehind)
	if err != nil {
		return nil, err
	}
	s.sure = len(s.payloads)
	return s, nil
}

func (s *Store) dropMaking() error {
	if !s.has(making) {
		return nil
	}
	return s.disk.Drop(making)
}

func (s *Store) readManifest() error {
	s.tail.number = 1
	if !s.has(manifest) {
		return nil
	}
	row, err := s.disk.Read(manifest)
	if err != nil {
		return err
	}
	n, ok := told(row)
	if !ok {
		return api.ErrCorrupt
	}
	s.tail.number = n
	return nil
}

// told is the number that a manifest tells.
func told(row []byte) (int, bool) {
	n, ok := uint32(0), false
	for _, payload := range frame.All(row) {
		n, ok = crc.Take(payload)
	}
	// A row of just so many bytes has no room for a second record, or a torn end, beside a number's.
	return int(n), ok && len(row) == frame.Size(4) && 1 <= n && n <= most
}

func (s *Store) readAhead() error {
	for n := 1; n < s.tail.number; n++ {
		if !s.has(segment(n)) {
			return api.ErrCorrupt
		}
		row, err := s.disk.Read(segment(n))
		if err != nil {
			return err
		}
		if s.take(row) < len(row) {
			return api.ErrCorrupt
		}
	}
	return nil
}

func (s *Store) readLast() error {
	name := segment(s.tail.number)
	if !s.has(name) {
		return nil
	}
	row, err := s.disk.Read(name)
	if err != nil {
		return err
	}
	s.tail.bytes = s.take(row)
	if s.tail.bytes < len(row) {
		err = s.disk.Cut(name, s.tail.bytes)
	}
	if err != nil {
		return err
	}
	return s.syncLast()
}

// take holds a row's payloads, and answers how far the row is whole.
func (s *Store) take(row []byte) int {
	whole := 0
	for at, payload := range frame.All(row) {
		s.payloads = append(s.payloads, payload)
		whole = at + frame.Size(len(payload))
	}
	return whole
}

// dropBehind takes away what was never told by a manifest: begun anew, such a
// segment would have old bytes.
func (s *Store) dropBehind() error {
	last := segment(s.tail.number)
	for _, name := range s.disk.Names() {
		if !strings.HasPrefix(name, begins) || name <= last {
			continue
		}
		if err := s.disk.Drop(name); err != nil {
			return err
		}
	}
	return nil
}
