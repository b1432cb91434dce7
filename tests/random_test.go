package tests

import (
	"math"
	"math/rand/v2"
	"slices"
	"testing"

	"loop.example/ternnat/impl"
)

// okByDocument is chapter 2 written out once more, condition by condition.
func okByDocument(b impl.NatBook) bool {
	within := func(v, least, most int) bool { return v >= least && v <= most }
	if !within(b.Len, 0, 16) || !within(b.Addr, 0, 65535) || !within(b.Own, 0, 65535) {
		return false
	}
	size := 65536
	for range b.Len {
		size /= 2
	}
	inside := func(a int) bool { return a >= b.Addr && a < b.Addr+size }
	if b.Addr%size != 0 || inside(b.Own) || b.Low < 1 || b.Low > b.High || b.High > 65535 || !within(b.Now, 0, 1000000) {
		return false
	}
	if len(b.Doors) > 6 || len(b.Entries) > 16 {
		return false
	}
	for i, d := range b.Doors {
		if !within(d.Kind, 1, 7) || !within(d.Outer, 1, 65535) || within(d.Outer, b.Low, b.High) || !inside(d.Inner) || !within(d.InnerPort, 1, 65535) {
			return false
		}
		for _, e := range b.Doors[:i] {
			if e.Kind > d.Kind || e.Kind == d.Kind && e.Outer >= d.Outer {
				return false
			}
			if e.Kind == d.Kind && e.Inner == d.Inner && e.InnerPort == d.InnerPort {
				return false
			}
		}
	}
	for i, d := range b.Entries {
		if !within(d.Kind, 1, 7) || !within(d.Peer, 0, 65535) || inside(d.Peer) || d.Peer == b.Own || !within(d.PeerPort, 1, 65535) {
			return false
		}
		if !within(d.Outer, b.Low, b.High) || !inside(d.Inner) || !within(d.InnerPort, 1, 65535) || !within(d.Last, 0, b.Now) || b.Now-d.Last >= 12 {
			return false
		}
		for _, e := range b.Entries[:i] {
			if slices.Compare(orderOf(e), orderOf(d)) >= 0 {
				return false
			}
			same := e.Kind == d.Kind && e.Inner == d.Inner && e.InnerPort == d.InnerPort && e.Peer == d.Peer && e.PeerPort == d.PeerPort
			if same && b.Now-d.Last < 8 && b.Now-e.Last < 8 {
				return false
			}
		}
	}
	return true
}

func orderOf(e impl.NatEntry) []int {
	return []int{e.Kind, e.Peer, e.PeerPort, e.Outer}
}

// bookByChance is mostly ok: its lists are in order, and few of its numbers are near each other.
func bookByChance(r *rand.Rand) impl.NatBook {
	b := impl.NatBook{Len: 1 + r.IntN(16), Low: 2 + r.IntN(40), Now: r.IntN(30)}
	size := 65536 >> b.Len
	b.Addr = r.IntN(65536/size) * size
	b.Own = (b.Addr + size + r.IntN(65536-size)) % 65536
	b.High = b.Low + r.IntN(6)
	inner := func() int { return b.Addr + r.IntN(min(size, 3)) }
	for range r.IntN(8) {
		outer := 1 + r.IntN(b.Low-1)
		if r.IntN(2) == 0 {
			outer = b.High + 1 + r.IntN(5)
		}
		b.Doors = append(b.Doors, impl.NatDoor{Kind: 1 + r.IntN(7), Outer: outer, Inner: inner(), InnerPort: 1 + r.IntN(4)})
	}
	slices.SortFunc(b.Doors, func(d, e impl.NatDoor) int {
		return slices.Compare([]int{d.Kind, d.Outer}, []int{e.Kind, e.Outer})
	})
	for range r.IntN(18) {
		peer := (b.Addr + size + r.IntN(65536-size)) % 65536
		if r.IntN(2) == 0 {
			peer = (b.Own + 1) % 65536
		}
		b.Entries = append(b.Entries, impl.NatEntry{Kind: 1 + r.IntN(7), Peer: peer, PeerPort: 1 + r.IntN(2), Outer: b.Low + r.IntN(b.High-b.Low+1), Inner: inner(), InnerPort: 1 + r.IntN(2), Last: max(0, b.Now-r.IntN(12))})
	}
	slices.SortFunc(b.Entries, func(d, e impl.NatEntry) int { return slices.Compare(orderOf(d), orderOf(e)) })
	return b
}

// numbersOf are all numbers of a book.
func numbersOf(b *impl.NatBook) []*int {
	all := []*int{&b.Addr, &b.Len, &b.Own, &b.Low, &b.High, &b.Now}
	for i := range b.Doors {
		d := &b.Doors[i]
		all = append(all, &d.Kind, &d.Outer, &d.Inner, &d.InnerPort)
	}
	for i := range b.Entries {
		e := &b.Entries[i]
		all = append(all, &e.Kind, &e.Peer, &e.PeerPort, &e.Outer, &e.Inner, &e.InnerPort, &e.Last)
	}
	return all
}

// disturb changes a number a little, to another number of the book, or to one far away.
func disturb(r *rand.Rand, b *impl.NatBook) {
	all := numbersOf(b)
	n := all[r.IntN(len(all))]
	switch r.IntN(4) {
	case 0:
		*n += 1 - 2*r.IntN(2)
	case 1:
		*n = *all[r.IntN(len(all))]
	case 2:
		edges := []int{0, 1, 7, 8, 16, 17, 65535, 65536, 1000000, 1000001, -1}
		*n = edges[r.IntN(len(edges))]
	case 3:
		far := append(farFrom(*n), math.MinInt)
		*n = far[r.IntN(len(far))]
	}
}

func TestBooksByChance(t *testing.T) {
	r := rand.New(rand.NewPCG(7, 2))
	ok, wrong := 0, 0
	for range 60000 {
		b := bookByChance(r)
		for range r.IntN(3) {
			disturb(r, &b)
		}
		want := okByDocument(b)
		if want {
			ok++
		} else {
			wrong++
		}
		if bookOk(t, b) != want {
			t.Fatalf("NatBookOk is not %v: %+v", want, b)
		}
	}
	if ok < 5000 || wrong < 5000 {
		t.Errorf("of the books by chance %d are ok and %d are not: too few of one sort to tell much", ok, wrong)
	}
}
