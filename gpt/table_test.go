package gpt_test

import (
	"testing"

	"barbican/api"
	"barbican/gpt"
)

// P17.1: G2.

func findIs(t *testing.T, x gpt.Table, typ api.GUID, want api.Part, why api.Errno) {
	t.Helper()
	if p, e := x.Find(typ); p != want || e != why {
		t.Fatalf("Find(%v): %+v, %d", typ, p, e)
	}
}

func namedIs(t *testing.T, x gpt.Table, id api.GUID, want api.Part, why api.Errno) {
	t.Helper()
	if p, e := x.Named(id); p != want || e != why {
		t.Fatalf("Named(%v): %+v, %d", id, p, e)
	}
}

func TestFindAndNamed(t *testing.T) {
	one, two, three := api.GUID{1}, api.GUID{15: 2}, api.GUID{3, 3}
	l := []api.Part{
		{Type: one, ID: two, First: 9, Last: 9, Attrs: 7, Name: [36]uint16{35: 4}},
		{Type: three, ID: one, First: 3, Last: 4},
		{Type: one, ID: three, First: 1, Last: 1},
	}
	for _, x := range []gpt.Table{{Parts: l}, {Disk: two, Backup: true, Parts: l}} {
		findIs(t, x, one, l[0], api.OK)
		findIs(t, x, three, l[1], api.OK)
		findIs(t, x, two, api.Part{}, api.ErrGptNone)
		findIs(t, x, api.GUID{}, api.Part{}, api.ErrGptNone)
		namedIs(t, x, two, l[0], api.OK)
		namedIs(t, x, one, l[1], api.OK)
		namedIs(t, x, three, l[2], api.OK)
		namedIs(t, x, api.GUID{}, api.Part{}, api.ErrGptNone)
	}
}

// Each bit of a GUID counts.
func TestFindOfAlmost(t *testing.T) {
	s := source(2)
	p := api.Part{Type: s.guid(), ID: s.guid(), First: 1, Last: 2}
	x := gpt.Table{Parts: []api.Part{p}}
	findIs(t, x, p.Type, p, api.OK)
	namedIs(t, x, p.ID, p, api.OK)
	for at := range 16 {
		for bit := range 8 {
			typ, id := p.Type, p.ID
			typ[at] ^= 1 << bit
			id[at] ^= 1 << bit
			findIs(t, x, typ, api.Part{}, api.ErrGptNone)
			namedIs(t, x, id, api.Part{}, api.ErrGptNone)
		}
	}
}

// A table that no disk has: names may come twice, and be noughts.
func TestFindInAnyTable(t *testing.T) {
	none := api.GUID{}
	for _, x := range []gpt.Table{{}, {Parts: []api.Part{}}, {Disk: api.GUID{1}}} {
		findIs(t, x, none, api.Part{}, api.ErrGptNone)
		findIs(t, x, api.GUID{1}, api.Part{}, api.ErrGptNone)
		namedIs(t, x, none, api.Part{}, api.ErrGptNone)
		namedIs(t, x, api.GUID{1}, api.Part{}, api.ErrGptNone)
	}
	x := gpt.Table{Parts: []api.Part{{Type: api.GUID{1}, Attrs: 1}, {Attrs: 2}, {ID: api.GUID{1}, Attrs: 3}, {Type: api.GUID{1}, ID: api.GUID{1}, Attrs: 4}}}
	findIs(t, x, none, x.Parts[1], api.OK)
	findIs(t, x, api.GUID{1}, x.Parts[0], api.OK)
	namedIs(t, x, none, x.Parts[0], api.OK)
	namedIs(t, x, api.GUID{1}, x.Parts[2], api.OK)
}

// Of a table that was read.
func TestFindOfWhatWasRead(t *testing.T) {
	s := source(3)
	for range 20 {
		x, e := readIs(t, laid(200, gpt.Table{Parts: s.parts(128, 34, 166)}))
		if e != api.OK || len(x.Parts) < 20 {
			t.Fatal(len(x.Parts), e)
		}
		for _, p := range x.Parts {
			findIs(t, x, p.Type, p, api.OK)
			namedIs(t, x, p.ID, p, api.OK)
		}
		findIs(t, x, s.guid(), api.Part{}, api.ErrGptNone)
		namedIs(t, x, s.guid(), api.Part{}, api.ErrGptNone)
	}
}
