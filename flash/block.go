package flash

import "barbican/api"

// block is what a block holds.
type block [api.BlockSize]byte

// blank tells whether it holds noughts alone: no such one is kept.
func (b block) blank() bool { return b == block{} }

// has tells whether there is a block n.
func (f *Flash) has(n int) bool { return n >= 0 && n < f.size }

// closed is why the block n can be neither read nor written.
func (f *Flash) closed(n int) api.Errno {
	switch {
	case f == nil:
		return api.ErrArg
	case !f.on:
		return api.ErrFlashOff
	case !f.has(n):
		return api.ErrFlashBlock
	}
	return api.OK
}

// put is a write that is done.
func (f *Flash) put(n int, b block) {
	f.writes++
	if b.blank() {
		delete(f.held, n)
		return
	}
	f.held[n] = b
}

// fits tells whether a range fits a limit; no sum of both is made, as it could wrap.
func fits(from, size, limit uint64) bool { return from <= limit && size <= limit-from }
