package disk

import (
	"bytes"
)

// file is some bytes as it is told, and some as it lasts. Unless it is cleared, it is told to begin with what lasts.
//
// Both may share memory, so that a Sync need not copy a whole file: what is told is only appended to,
// behind what lasts, and a Clear begins with other memory.
type file struct {
	told    []byte
	lasts   []byte
	cleared bool // since it was last synced
}

func (f *file) put(b []byte) { f.told = append(f.told, b...) }

func (f *file) clear() { f.told, f.cleared = nil, true }

func (f *file) sync() { f.lasts, f.cleared = f.told, false }

// crash leaves what lasts, and so many bytes of what was told behind it;
// below 0 not even a clear is left. What is told then lasts, as if it were synced.
func (f *file) crash(keep int) {
	sure := len(f.lasts)
	if f.cleared {
		sure = 0
	}
	if keep < 0 {
		f.told = f.lasts
	} else {
		f.told = f.told[:sure+min(keep, len(f.told)-sure)]
	}
	f.sync()
}

func (f *file) clone() file {
	return file{told: bytes.Clone(f.told), lasts: bytes.Clone(f.lasts), cleared: f.cleared}
}
