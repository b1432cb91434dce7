package tests

import (
	"math"
	"reflect"
	"slices"
	"testing"

	"loop.example/ternnat/impl"
)

// plainBook has one door and one entry, and room on each side of every limit.
func plainBook() impl.NatBook {
	return impl.NatBook{
		Addr: 2560, Len: 8, Own: 51201, Low: 40, High: 60, Now: 100,
		Doors:   []impl.NatDoor{{Kind: 1, Outer: 22, Inner: 2561, InnerPort: 22}},
		Entries: []impl.NatEntry{{Kind: 1, Peer: 51202, PeerPort: 80, Outer: 40, Inner: 2562, InnerPort: 7, Last: 95}},
	}
}

// bareBook is plainBook without doors and entries.
func bareBook() impl.NatBook {
	b := plainBook()
	b.Doors, b.Entries = nil, nil
	return b
}

// farFrom tells numbers that lie outside every limit, those among them that would come back inside if they were cut to fewer bits.
func farFrom(v int) []int {
	word := 1
	word <<= 32
	return []int{
		math.MinInt, math.MinInt + 1, math.MinInt + v, math.MinInt32, -word, v - word, v - 65536, -v - 1,
		-1, v + 1<<24, v + word, math.MaxInt32, math.MaxInt - v, math.MaxInt - 1, math.MaxInt,
	}
}

// withSpareRoom lays a list ahead of other values in one array, so that what is written behind its end shows.
func withSpareRoom[T any](list []T, behind T) (given, whole []T) {
	whole = append(slices.Clone(list), behind, behind, behind)
	return whole[:len(list)], whole
}

// bookOk asks NatBookOk, NatInside and NatBoard of a book, with its empty lists nil, not nil, and with room behind them,
// and sees that they agree and write nothing.
func bookOk(t *testing.T, b impl.NatBook) bool {
	t.Helper()
	roomy := b
	var doors []impl.NatDoor
	var entries []impl.NatEntry
	roomy.Doors, doors = withSpareRoom(b.Doors, impl.NatDoor{Kind: 1, Outer: 22, Inner: 2561, InnerPort: 22})
	roomy.Entries, entries = withSpareRoom(b.Entries, impl.NatEntry{Kind: 1, Peer: 51202, PeerPort: 80, Outer: 40, Inner: 2562, InnerPort: 7, Last: 95})
	doorsAhead, entriesAhead := slices.Clone(doors), slices.Clone(entries)
	ok := impl.NatBookOk(roomy)
	for _, v := range []impl.NatBook{roomy, withEmpty(b), withNil(b), roomy} {
		if impl.NatInside(v, b.Addr) != ok {
			t.Errorf("NatInside of Addr is not NatBookOk: %+v", b)
		}
		if impl.NatBookOk(v) != ok {
			t.Errorf("NatBookOk changes its mind: %+v", b)
		}
		if text := impl.NatBoard(v); (text != "") != ok {
			t.Errorf("NatBookOk is %v, NatBoard %q: %+v", ok, text, b)
		}
	}
	if !reflect.DeepEqual(doors, doorsAhead) || !reflect.DeepEqual(entries, entriesAhead) {
		t.Errorf("something was written into or behind a list: %+v", b)
	}
	return ok
}

func withNil(b impl.NatBook) impl.NatBook {
	if len(b.Doors) == 0 {
		b.Doors = nil
	}
	if len(b.Entries) == 0 {
		b.Entries = nil
	}
	return b
}

func withEmpty(b impl.NatBook) impl.NatBook {
	if len(b.Doors) == 0 {
		b.Doors = []impl.NatDoor{}
	}
	if len(b.Entries) == 0 {
		b.Entries = []impl.NatEntry{}
	}
	return b
}

// wantOk fails the test if a book is not judged as it should be.
func wantOk(t *testing.T, want bool, b impl.NatBook, name string) {
	t.Helper()
	if got := bookOk(t, b); got != want {
		t.Errorf("%s: NatBookOk is %v, not %v: %+v", name, got, want, b)
	}
}
