package ram

import (
	"sort"

	"barbican/api"
	"barbican/octets"
)

// rights tell for each access whether a region is open to it. No access has the number 0.
type rights [api.ToExec + 1]bool

// region is one of the table.
type region struct {
	base, size uint64
	rights     rights
	secure     bool
}

// regionOf is a region as the table has it.
func regionOf(x api.Region) region {
	return region{
		base:   x.Base,
		size:   x.Size,
		rights: rights{api.ToRead: x.Read, api.ToWrite: x.Write, api.ToExec: x.Exec},
		secure: x.Secure,
	}
}

// told is a region as it is told.
func (g region) told() api.Region {
	return api.Region{
		Base:   g.base,
		Size:   g.size,
		Read:   g.rights[api.ToRead],
		Write:  g.rights[api.ToWrite],
		Exec:   g.rights[api.ToExec],
		Secure: g.secure,
	}
}

// end is the address behind its last one.
func (g region) end() uint64 { return g.base + g.size }

// open tells whether a world may do that in the region.
func (g region) open(secure bool, a api.Access) bool {
	return (secure || !g.secure) && g.rights[a]
}

// behind is which region is the first that ends behind an address: it has that address, or none has.
func (r *RAM) behind(at uint64) int {
	return sort.Search(len(r.table), func(i int) bool { return r.table[i].end() > at })
}

// closed is why a range can't be reached at all.
func (r *RAM) closed(at, size uint64) api.Errno {
	switch {
	case r == nil:
		return api.ErrArg
	case !within(at, size):
		return api.ErrRamRange
	}
	return api.OK
}

// within tells whether a range is within RAM.
func within(at, size uint64) bool {
	return at >= api.RAMBase && octets.Fits(at-api.RAMBase, size, api.RAMSize)
}
