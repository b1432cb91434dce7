package tests

import (
	"math"
	"slices"
	"testing"

	"loop.example/ternnat/impl"
)

// Each number of a book, of a door and of an entry, past its ends: no part of a board is told.
func TestBoardWrongNumbers(t *testing.T) {
	wantBoard(t, "nothing", impl.NatBook{})
	for _, b := range slices.Concat(wrongBooks(), wrongOf(bareBook, bareFields())) {
		wantBoard(t, "a wrong number", b)
	}
}

// disordered changes the lists of a book such that each number by itself may stand.
func disordered() map[string]func(b *impl.NatBook) {
	return map[string]func(b *impl.NatBook){
		"doors exchanged":               func(b *impl.NatBook) { b.Doors[4], b.Doors[5] = b.Doors[5], b.Doors[4] },
		"doors with one Outer":          func(b *impl.NatBook) { b.Doors[5].Outer = b.Doors[4].Outer },
		"one door twice":                func(b *impl.NatBook) { b.Doors[5] = b.Doors[4] },
		"doors to one port inside":      func(b *impl.NatBook) { b.Doors[5].Inner = b.Doors[0].Inner },
		"a door too many":               func(b *impl.NatBook) { b.Doors = manyDoors(7) },
		"a door in Low..High":           func(b *impl.NatBook) { b.Doors[5].Outer = b.Low },
		"entries exchanged":             func(b *impl.NatBook) { b.Entries[14], b.Entries[15] = b.Entries[15], b.Entries[14] },
		"entries with one Outer":        func(b *impl.NatBook) { b.Entries[15].Outer = b.Entries[14].Outer },
		"one entry twice":               func(b *impl.NatBook) { b.Entries[15] = b.Entries[14] },
		"two that live of one flow":     func(b *impl.NatBook) { b.Entries[15].Inner = b.Entries[0].Inner },
		"an entry too many":             func(b *impl.NatBook) { b.Entries = manyEntries(17) },
		"the last entry is too old":     func(b *impl.NatBook) { b.Entries[15].Last = 88 },
		"the last entry is yet to come": func(b *impl.NatBook) { b.Entries[15].Last = 101 },
		"a peer inside":                 func(b *impl.NatBook) { b.Entries[0].Peer = 2570 },
		"a peer that is Own":            func(b *impl.NatBook) { b.Entries[0].Peer = 51201 },
		"all addresses inside":          func(b *impl.NatBook) { b.Addr, b.Len = 0, 0 },
		"Own inside":                    func(b *impl.NatBook) { b.Own = 2700 },
		"Low past High":                 func(b *impl.NatBook) { b.Low, b.High = b.High, b.Low },
	}
}

// Lists that are wrong though each number by itself may stand.
func TestBoardWrongLists(t *testing.T) {
	for name, change := range disordered() {
		b := withEntries(manyEntries(16)...)
		b.Doors = manyDoors(6)
		wantLine(t, "as it should be", b, 0, "now 100")
		change(&b)
		wantBoard(t, name, b)
	}
}

// Lists far longer than may be.
func TestBoardLongLists(t *testing.T) {
	for _, n := range []int{100, 100000} {
		wantBoard(t, "many doors", withDoors(make([]impl.NatDoor, n)...))
		wantBoard(t, "many entries", withEntries(make([]impl.NatEntry, n)...))
		wantBoard(t, "many doors", withDoors(manyDoors(n)...))
		wantBoard(t, "many entries", withEntries(manyEntries(n)...))
	}
}

// Negative and very great numbers everywhere, in pairs.
func TestBoardWild(t *testing.T) {
	wild := []int{math.MinInt, math.MinInt + 1, -1 << 40, -65536, -256, -1, 0, 1, 17, 65536, 1000001, 1 << 40, math.MaxInt - 1, math.MaxInt}
	for _, v := range wild {
		for _, w := range wild {
			d := impl.NatDoor{Kind: v, Outer: w, Inner: w, InnerPort: v}
			e := impl.NatEntry{Kind: v, Peer: w, PeerPort: v, Outer: w, Inner: v, InnerPort: w, Last: v}
			b := plainBook()
			b.Doors = []impl.NatDoor{d}
			wantBoard(t, "a wild door", b)
			b = plainBook()
			b.Entries = []impl.NatEntry{e}
			wantBoard(t, "a wild entry", b)
			wantBoard(t, "wild all over", impl.NatBook{Addr: v, Len: w, Own: v, Low: w, High: w, Now: v, Doors: []impl.NatDoor{d, d}, Entries: []impl.NatEntry{e, e}})
		}
	}
}
