package flash

import "barbican/api"

// Cut lets power go at a write to come.
func (f *Flash) Cut(writes int, done bool) api.Errno {
	switch {
	case f == nil:
		return api.ErrArg
	case !f.on:
		return api.ErrFlashOff
	case writes < 0:
		return api.ErrArg
	}
	f.cut, f.done = writes, done
	return api.OK
}

// On tells whether there is power.
func (f *Flash) On() bool { return f != nil && f.on }

// Power brings it back.
func (f *Flash) Power() {
	if f != nil {
		f.on, f.cut = true, 0
	}
}

// Writes is how many blocks were written.
func (f *Flash) Writes() int {
	if f == nil {
		return 0
	}
	return f.writes
}

// spend takes a write off a cut, and tells whether power goes at it; there is no cut any more then.
func (f *Flash) spend() bool {
	if f.cut == 0 {
		return false
	}
	f.cut--
	return f.cut == 0
}
