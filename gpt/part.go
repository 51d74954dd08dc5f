package gpt

import (
	"slices"

	"barbican/api"
)

const (
	entrySize = 128
	nameAt    = 56 // where in an entry its name begins
)

// parts are partitions that may stand beside one another.
type parts struct {
	first, last uint64                // the blocks that they may have
	named       map[api.GUID]struct{} // their own names
	list        []api.Part
}

// usable is no partitions yet, which may have the blocks from first to last.
func usable(first, last uint64) *parts {
	return &parts{first: first, last: last, named: map[api.GUID]struct{}{}}
}

// partsOf reads the entries of a table that are in use.
func partsOf(table []byte, first, last uint64) ([]api.Part, api.Errno) {
	l := usable(first, last)
	for entry := range slices.Chunk(table, entrySize) {
		if blank(entry) {
			continue
		}
		// One that is unused, and not noughts alone, is refused as a partition without a type.
		if e := l.add(partOf(entry)); e != api.OK {
			return nil, e
		}
	}
	return l.list, api.OK
}

// addAll adds some, one after the other.
func (l *parts) addAll(more []api.Part) api.Errno {
	for _, p := range more {
		if e := l.add(p); e != api.OK {
			return e
		}
	}
	return api.OK
}

// add adds one, if it may stand beside those ahead of it.
func (l *parts) add(p api.Part) api.Errno {
	none := api.GUID{}
	if _, twice := l.named[p.ID]; twice || p.ID == none || p.Type == none {
		return api.ErrGptEntry
	}
	if p.First > p.Last || p.First < l.first || p.Last > l.last {
		return api.ErrGptEntry
	}
	meets := func(q api.Part) bool { return p.First <= q.Last && q.First <= p.Last }
	if slices.ContainsFunc(l.list, meets) {
		return api.ErrGptOverlap
	}
	l.named[p.ID] = struct{}{}
	l.list = append(l.list, p)
	return api.OK
}

// partOf is the partition of an entry.
func partOf(entry []byte) api.Part {
	p := api.Part{
		Type:  api.GUID(entry[:16]),
		ID:    api.GUID(entry[16:32]),
		First: numberAt(entry, 32, 8),
		Last:  numberAt(entry, 40, 8),
		Attrs: numberAt(entry, 48, 8),
	}
	for i := range p.Name {
		p.Name[i] = uint16(numberAt(entry, nameAt+2*i, 2))
	}
	return p
}

// tableBytes is a table with room for all entries, those of some partitions ahead.
func tableBytes(l []api.Part) []byte {
	table := make([]byte, api.MaxEntries*entrySize)
	for i, p := range l {
		copy(table[i*entrySize:], entryBytes(p))
	}
	return table
}

// entryBytes is a partition as an entry.
func entryBytes(p api.Part) []byte {
	b := slices.Concat(p.Type[:], p.ID[:], number(8, p.First), number(8, p.Last), number(8, p.Attrs))
	for _, unit := range p.Name {
		b = append(b, number(2, uint64(unit))...)
	}
	return b
}
