package segs

import (
	"strconv"
	"strings"

	"cachet/api"
	"cachet/crc"
	"cachet/frame"
)

const (
	most     = 1 << 20 // segments
	begins   = "seg-"  // with what a segment's name begins
	figures  = 8       // of a segment's name
	manifest = "manifest"
	making   = "manifest.new"
	twice    = 24 // bytes of two manifests: the old one stands while the new one is made
)

// tail is where a row of records ends: in which segment, and how many bytes that has.
type tail struct {
	number, bytes int
}

// behind is the tail behind one more record.
func (t tail) behind(record, size int) tail {
	if t.bytes > 0 && t.bytes+record > size {
		return tail{t.number + 1, record}
	}
	return tail{t.number, t.bytes + record}
}

// hasRoom is asked ahead of the first step, so that either all is written or nothing.
func (s *Store) hasRoom(payloads [][]byte) bool {
	need, at := 0, s.tail
	for _, payload := range payloads {
		record := frame.Size(len(payload))
		need += record
		at = at.behind(record, s.size)
	}
	if at.number > s.tail.number {
		need += twice
	}
	// A manifest that tells of more segments couldn't be opened again.
	return need <= s.disk.Free() && at.number <= most
}

// write appends records, and moves the tail behind them.
func (s *Store) write(payloads [][]byte, at *tail) error {
	for _, payload := range payloads {
		record, err := frame.Put(payload)
		if err != nil {
			return err
		}
		next := at.behind(len(record), s.size)
		err = inOrder(
			func() error { return s.move(at.number, next.number) },
			func() error { return s.disk.Append(segment(next.number), record) },
		)
		if err != nil {
			return err
		}
		*at = next
	}
	return nil
}

// move leaves a segment for the next one. It is synced first: what stands ahead
// of the last segment must be whole behind any crash.
func (s *Store) move(from, to int) error {
	if from == to {
		return nil
	}
	return inOrder(
		func() error { return s.sync(from) },
		func() error { return s.begin(to) },
	)
}

func (s *Store) begin(n int) error {
	record, err := frame.Put(crc.Bytes(uint32(n)))
	if err != nil {
		return err
	}
	return inOrder(
		func() error { return s.disk.Append(making, record) },
		func() error { return s.disk.Sync(making) },
		func() error { return s.disk.Rename(making, manifest) },
	)
}

func (s *Store) syncLast() error {
	return s.sync(s.tail.number)
}

func (s *Store) sync(n int) error {
	if !s.has(segment(n)) {
		return nil
	}
	return s.disk.Sync(segment(n))
}

func (s *Store) has(name string) bool {
	return s.disk.Sure(name) >= 0
}

// powered is asked where perhaps no step is to be done, by which the disk would tell it.
func (s *Store) powered() error {
	if s.disk.Down() {
		return api.ErrDown
	}
	return nil
}

// inOrder does one behind the other, up to the first that fails.
func inOrder(steps ...func() error) error {
	for _, step := range steps {
		if err := step(); err != nil {
			return err
		}
	}
	return nil
}

func segment(n int) string {
	number := strconv.Itoa(n)
	return begins + strings.Repeat("0", max(figures-len(number), 0)) + number
}
