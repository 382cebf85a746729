package disk

import "bytes"

const longest = 64 // signs of a name

type file struct {
	data []byte
	sure int
}

// cut answers how many bytes went. What is left is copied, since spare room
// would hold the bytes that are gone, beyond any quota.
func (f *file) cut(size int) int {
	less := len(f.data) - size
	if less > 0 {
		f.data = bytes.Clone(f.data[:size])
	}
	f.sure = min(f.sure, size)
	return less
}

func (f *file) crash(keep int) int {
	left := min(keep, len(f.data)-f.sure)
	less := f.cut(f.sure + left)
	f.sure = len(f.data)
	return less
}

func (f *file) copy() *file {
	return &file{data: bytes.Clone(f.data), sure: f.sure}
}

func named(name string) bool {
	if name == "" || len(name) > longest {
		return false
	}
	for i := range len(name) {
		if !sign(name[i]) {
			return false
		}
	}
	return true
}

func sign(c byte) bool {
	return 'a' <= c && c <= 'z' || '0' <= c && c <= '9' || c == '.' || c == '-'
}
