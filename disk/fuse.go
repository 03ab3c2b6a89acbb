package disk

import (
	"slices"
)

// fuse is after how many bytes the power goes, and what is kept then.
type fuse struct {
	left int // 0: there is no fuse, for one that has burnt down is gone
	keep []int
}

// burn is how many of so many bytes the fuse lasts for, and whether it has burnt down with them.
func (f *fuse) burn(size int) (int, bool) {
	if f.left == 0 {
		return size, false
	}
	if size >= f.left {
		return f.left, true
	}
	f.left -= size
	return size, false
}

func (f *fuse) clone() fuse { return fuse{left: f.left, keep: slices.Clone(f.keep)} }
