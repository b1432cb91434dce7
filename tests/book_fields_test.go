package tests

import (
	"math"
	"testing"

	"loop.example/ternnat/impl"
)

// fieldCase names a number of plainBook, values it may take there with all else as it is, and values it may not.
type fieldCase struct {
	name  string
	field func(b *impl.NatBook) *int
	ok    []int
	wrong []int
}

func bookFields() []fieldCase {
	return []fieldCase{
		{"Addr", func(b *impl.NatBook) *int { return &b.Addr }, []int{2560}, []int{0, 2304, 2559, 2561, 2562, 2688, 2816, 65280, 65536}},
		{"Len", func(b *impl.NatBook) *int { return &b.Len }, []int{7, 8, 9, 14}, []int{0, 6, 15, 16, 17}},
		{"Own", func(b *impl.NatBook) *int { return &b.Own }, []int{0, 2559, 2816, 51200, 51203, 65535}, []int{2560, 2561, 2600, 2815, 51202, 65536}},
		{"Low", func(b *impl.NatBook) *int { return &b.Low }, []int{23, 39, 40}, []int{0, 1, 22, 41, 60, 61, 65535}},
		{"High", func(b *impl.NatBook) *int { return &b.High }, []int{40, 41, 61, 65534, 65535}, []int{0, 1, 22, 39, 65536}},
		{"Now", func(b *impl.NatBook) *int { return &b.Now }, []int{95, 96, 102, 103, 106}, []int{0, 94, 107, 108, 1000000, 1000001}},
	}
}

func doorFields() []fieldCase {
	return []fieldCase{
		{"door Kind", func(b *impl.NatBook) *int { return &b.Doors[0].Kind }, []int{1, 2, 6, 7}, []int{0, 8}},
		{"door Outer", func(b *impl.NatBook) *int { return &b.Doors[0].Outer }, []int{1, 39, 61, 65534, 65535}, []int{0, 40, 41, 50, 59, 60, 65536}},
		{"door Inner", func(b *impl.NatBook) *int { return &b.Doors[0].Inner }, []int{2560, 2562, 2815}, []int{0, 2559, 2816, 51201, 51202, 65535, 65536}},
		{"door InnerPort", func(b *impl.NatBook) *int { return &b.Doors[0].InnerPort }, []int{1, 40, 65534, 65535}, []int{0, 65536}},
	}
}

func entryFields() []fieldCase {
	return []fieldCase{
		{"entry Kind", func(b *impl.NatBook) *int { return &b.Entries[0].Kind }, []int{1, 2, 6, 7}, []int{0, 8}},
		{"entry Peer", func(b *impl.NatBook) *int { return &b.Entries[0].Peer }, []int{0, 2559, 2816, 51200, 51202, 65535}, []int{2560, 2561, 2600, 2815, 51201, 65536}},
		{"entry PeerPort", func(b *impl.NatBook) *int { return &b.Entries[0].PeerPort }, []int{1, 40, 65534, 65535}, []int{0, 65536}},
		{"entry Outer", func(b *impl.NatBook) *int { return &b.Entries[0].Outer }, []int{40, 41, 59, 60}, []int{0, 1, 22, 39, 61, 65535, 65536}},
		{"entry Inner", func(b *impl.NatBook) *int { return &b.Entries[0].Inner }, []int{2560, 2561, 2815}, []int{0, 2559, 2816, 51201, 51202, 65535, 65536}},
		{"entry InnerPort", func(b *impl.NatBook) *int { return &b.Entries[0].InnerPort }, []int{1, 40, 65534, 65535}, []int{0, 65536}},
		{"entry Last", func(b *impl.NatBook) *int { return &b.Entries[0].Last }, []int{89, 92, 93, 99, 100}, []int{0, 87, 88, 101, 112}},
	}
}

func bareFields() []fieldCase {
	return []fieldCase{
		{"Addr", func(b *impl.NatBook) *int { return &b.Addr }, []int{0, 256, 65280}, []int{-256, 1, 128, 255, 257, 65279, 65535, 65536, 65792}},
		{"Len", func(b *impl.NatBook) *int { return &b.Len }, []int{7, 8, 9, 15, 16}, []int{0, 1, 6, 17, 24, 64, 80}},
		{"Own", func(b *impl.NatBook) *int { return &b.Own }, []int{0, 2559, 2816, 65535}, []int{2560, 2815, 65536}},
		{"Low", func(b *impl.NatBook) *int { return &b.Low }, []int{1, 2, 59, 60}, []int{0, 61, 65535, 65536}},
		{"High", func(b *impl.NatBook) *int { return &b.High }, []int{40, 65535}, []int{0, 39, 65536}},
		{"Now", func(b *impl.NatBook) *int { return &b.Now }, []int{0, 1, 999999, 1000000}, []int{1000001}},
	}
}

// checkFields sets one number of a fresh book after the other to what it may be, and to what it may not.
func checkFields(t *testing.T, fresh func() impl.NatBook, cases []fieldCase) {
	t.Helper()
	for _, c := range cases {
		b := fresh()
		wantOk(t, true, b, c.name)
		for _, v := range append(c.wrong, farFrom(*c.field(&b))...) {
			b := fresh()
			*c.field(&b) = v
			wantOk(t, false, b, c.name)
		}
		for _, v := range c.ok {
			b := fresh()
			*c.field(&b) = v
			wantOk(t, true, b, c.name)
		}
	}
}

func TestBookFieldEdges(t *testing.T)  { checkFields(t, plainBook, bookFields()) }
func TestDoorFieldEdges(t *testing.T)  { checkFields(t, plainBook, doorFields()) }
func TestEntryFieldEdges(t *testing.T) { checkFields(t, plainBook, entryFields()) }

// A book is refused for its own numbers where it has neither doors nor entries.
func TestBareBookFieldEdges(t *testing.T) { checkFields(t, bareBook, bareFields()) }

func TestNothingIsNoBook(t *testing.T) {
	wantOk(t, false, impl.NatBook{}, "nothing")
	b := bareBook()
	wantOk(t, true, b, "no doors, no entries")
}

// Of each Len: every place for Addr at which a book may begin, and those just beside it.
func TestLenAndAddr(t *testing.T) {
	for length := 1; length <= 16; length++ {
		size := 65536
		for range length {
			size /= 2
		}
		at := func(addr, own int) impl.NatBook {
			return impl.NatBook{Addr: addr, Len: length, Own: own, Low: 1, High: 1}
		}
		wantOk(t, true, at(0, size), "the first")
		wantOk(t, true, at(0, 65535), "the first")
		wantOk(t, true, at(65536-size, 0), "the last")
		wantOk(t, true, at(65536-size, 65536-size-1), "the last")
		wantOk(t, false, at(65536-size, 65536-size), "Own inside")
		wantOk(t, false, at(65536-size, 65535), "Own inside")
		wantOk(t, false, at(0, size-1), "Own inside")
		wantOk(t, false, at(0, 0), "Own inside")
		wantOk(t, false, at(65536, 0), "Addr past the end")
		wantOk(t, false, at(-size, 65535), "Addr below 0")
		wantOk(t, false, at(math.MinInt, 65535), "Addr far below 0")
		wantOk(t, false, at(math.MaxInt-size+1, 0), "Addr far past the end")
		if size > 1 {
			wantOk(t, false, at(1, 0), "no multiple")
			wantOk(t, false, at(size/2, 65535), "no multiple")
			wantOk(t, false, at(65536-size/2, 0), "no multiple")
			wantOk(t, false, at(65535, 0), "no multiple")
		}
	}
}

// With Len 0 all addresses are inside: there is none for Own.
func TestLenZero(t *testing.T) {
	for own := -1; own <= 65536; own++ {
		if impl.NatBookOk(impl.NatBook{Own: own, Low: 1, High: 1}) {
			t.Fatalf("Len 0 with Own %d", own)
		}
	}
}

func TestLenPastItsEdges(t *testing.T) {
	for _, length := range []int{-1, 17, -16, 18, 32, 63, 64, 65, -47, -48, -49, 80, math.MinInt, math.MinInt + 15, math.MinInt + 16, math.MinInt + 17, math.MaxInt} {
		for _, addr := range []int{0, 1, 2560, 32768, 65535} {
			for _, own := range []int{0, 9, 65535} {
				wantOk(t, false, impl.NatBook{Addr: addr, Len: length, Own: own, Low: 1, High: 1}, "Len")
			}
		}
	}
}

func TestPortRange(t *testing.T) {
	for _, c := range []struct {
		low, high int
		want      bool
	}{
		{1, 1, true}, {1, 65535, true}, {65535, 65535, true}, {300, 300, true}, {300, 301, true},
		{301, 300, false}, {0, 0, false}, {0, 1, false}, {1, 0, false}, {-1, 5, false}, {65535, 65536, false}, {65536, 65536, false},
		{1, 65536, false}, {65535, 1, false}, {math.MinInt, math.MaxInt, false}, {1, math.MaxInt, false}, {math.MinInt, 65535, false},
		{math.MaxInt, math.MinInt, false},
	} {
		b := bareBook()
		b.Low, b.High = c.low, c.high
		wantOk(t, c.want, b, "ports")
	}
}

// A door has no port where all are kept for entries; ports at both ends are left to doors otherwise.
func TestDoorBesidePortRange(t *testing.T) {
	b := plainBook()
	b.Entries = nil
	b.Low, b.High = 1, 65535
	for _, outer := range []int{1, 22, 65535} {
		b.Doors[0].Outer = outer
		wantOk(t, false, b, "no port left")
	}
	b.Low, b.High = 2, 65534
	for outer, want := range map[int]bool{1: true, 2: false, 65534: false, 65535: true} {
		b.Doors[0].Outer = outer
		wantOk(t, want, b, "ports at both ends")
	}
}

// An entry is kept while Now - Last is below 12, wherever Now is; and it went out at 0 or later, and not past Now.
func TestLast(t *testing.T) {
	for _, now := range []int{0, 1, 7, 8, 11, 12, 13, 50, 999999, 1000000} {
		for last := now - 14; last <= now+2; last++ {
			b := plainBook()
			b.Now = now
			b.Entries[0].Last = last
			wantOk(t, last >= 0 && last <= now && last > now-12, b, "Last")
		}
	}
}

// Nothing but one address inside, and all but half of them.
func TestFewAndManyInside(t *testing.T) {
	b := plainBook()
	b.Len = 16
	b.Addr, b.Doors[0].Inner, b.Entries[0].Inner = 2561, 2561, 2561
	wantOk(t, true, b, "one inside")
	b.Entries[0].Inner = 2562
	wantOk(t, false, b, "beside the one inside")
	b = plainBook()
	b.Len, b.Addr = 1, 0
	wantOk(t, true, b, "half inside")
	b.Entries[0].Peer = 32768
	wantOk(t, true, b, "half inside")
	b.Entries[0].Peer = 32767
	wantOk(t, false, b, "a peer in the half that is inside")
}
