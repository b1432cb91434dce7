package tests

import (
	"testing"

	"loop.example/ternnat/impl"
)

func TestInsideEveryAddress(t *testing.T) {
	for _, c := range []struct{ addr, length, own, last int }{
		{2560, 8, 51201, 2815},
		{0, 1, 65535, 32767},
		{32768, 1, 0, 65535},
		{65535, 16, 65534, 65535},
		{0, 16, 1, 0},
		{65534, 15, 65533, 65535},
		{4096, 4, 8192, 8191},
	} {
		b := impl.NatBook{Addr: c.addr, Len: c.length, Own: c.own, Low: 1, High: 2}
		for a := -70000; a <= 140000; a++ {
			if want := a >= c.addr && a <= c.last; impl.NatInside(b, a) != want {
				t.Fatalf("address %d of %+v: not %v", a, b, want)
			}
		}
		for _, a := range append(farFrom(c.addr), farFrom(c.last)...) {
			if impl.NatInside(b, a) {
				t.Errorf("address %d of %+v", a, b)
			}
		}
	}
}

func TestInsideWithDoorsAndEntries(t *testing.T) {
	b := plainBook()
	for a, want := range map[int]bool{2559: false, 2560: true, 2561: true, 2562: true, 2815: true, 2816: false, 51201: false, 51202: false} {
		if impl.NatInside(b, a) != want {
			t.Errorf("address %d: not %v", a, want)
		}
	}
}

// In a book that is not ok nothing is inside, whatever is wrong with it.
func TestInsideOfWrongBook(t *testing.T) {
	addrs := []int{0, 2559, 2560, 2561, 2562, 2815, 2816, 51201, 65535}
	for _, cases := range [][]fieldCase{bookFields(), doorFields(), entryFields()} {
		for _, c := range cases {
			b := plainBook()
			for _, v := range append(c.wrong, farFrom(*c.field(&b))...) {
				b := plainBook()
				*c.field(&b) = v
				for _, a := range append(addrs, v) {
					if impl.NatInside(b, a) {
						t.Errorf("%s %d: %d is inside", c.name, v, a)
					}
				}
			}
		}
	}
}
