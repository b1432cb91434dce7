package tests

import (
	"reflect"
	"slices"
	"testing"

	"loop.example/ternnat/impl"
)

// call is NatOut, NatIn or NatTick with all given but the book; what one of them does not tell is nothing.
type call func(b impl.NatBook) (impl.NatBook, impl.NatFlow, int)

// told is what a call tells.
type told struct {
	book impl.NatBook
	flow impl.NatFlow
	code int
}

func outOf(f impl.NatFlow) call {
	return func(b impl.NatBook) (impl.NatBook, impl.NatFlow, int) { return impl.NatOut(b, f) }
}

func inOf(f impl.NatFlow) call {
	return func(b impl.NatBook) (impl.NatBook, impl.NatFlow, int) {
		g, code := impl.NatIn(b, f)
		return impl.NatBook{}, g, code
	}
}

func tickOf(b impl.NatBook) (impl.NatBook, impl.NatFlow, int) {
	after, code := impl.NatTick(b)
	return after, impl.NatFlow{}, code
}

func (c call) of(b impl.NatBook) told {
	book, flow, code := c(b)
	return told{book, flow, code}
}

// sameBook holds two books against each other; an empty list is as good as nil.
func sameBook(a, b impl.NatBook) bool {
	return reflect.DeepEqual(withNil(a), withNil(b))
}

func (a told) same(b told) bool {
	return a.flow == b.flow && a.code == b.code && sameBook(a.book, b.book)
}

// ownCopy shares no memory with the book, and has no spare room.
func ownCopy(b impl.NatBook) impl.NatBook {
	b.Doors = slices.Clip(append([]impl.NatDoor(nil), b.Doors...))
	b.Entries = slices.Clip(append([]impl.NatEntry(nil), b.Entries...))
	return b
}

// ruin writes over the lists of a book and the room behind them.
func ruin(b impl.NatBook) {
	for i := range b.Doors[:cap(b.Doors)] {
		b.Doors[:cap(b.Doors)][i] = impl.NatDoor{Kind: -77, Outer: -77, Inner: -77, InnerPort: -77}
	}
	for i := range b.Entries[:cap(b.Entries)] {
		b.Entries[:cap(b.Entries)][i] = impl.NatEntry{Kind: -77, Peer: -77, PeerPort: -77, Outer: -77, Inner: -77, InnerPort: -77, Last: -77}
	}
}

// withRoom is the book in arrays that go on behind its lists, with what would be in order there; whole has all of them.
func withRoom(b impl.NatBook) (given, whole impl.NatBook) {
	given, whole = b, b
	given.Doors, whole.Doors = withSpareRoom(b.Doors, impl.NatDoor{Kind: 7, Outer: 65535, Inner: b.Addr, InnerPort: 65535})
	given.Entries, whole.Entries = withSpareRoom(b.Entries, impl.NatEntry{Kind: 7, Peer: 65535, PeerPort: 65535, Outer: b.High, Inner: b.Addr, InnerPort: 65535, Last: b.Now})
	return given, whole
}

// ask calls, and sees that nothing is written into the book or behind the ends of its lists, that the answer is new memory,
// and that neither another call, nor spare room, nor how an empty list is given is to be seen in it.
func ask(t *testing.T, b impl.NatBook, c call) told {
	t.Helper()
	given, whole := withRoom(b)
	before := ownCopy(whole)
	first := c.of(given)
	answer := first
	answer.book = ownCopy(first.book)
	if !sameBook(whole, before) {
		t.Errorf("something was written into an argument, or behind its end: %+v", b)
	}
	second := c.of(given)
	ruin(first.book)
	if !sameBook(whole, before) || !second.same(answer) {
		t.Errorf("an answer shares memory with an argument or another answer: %+v", b)
	}
	ruin(whole)
	if !second.same(answer) {
		t.Errorf("an answer hangs on an argument, or changes from call to call: %+v", b)
	}
	for _, v := range []impl.NatBook{withNil(ownCopy(b)), withEmpty(ownCopy(b))} {
		if !c.of(v).same(answer) {
			t.Errorf("an empty list or spare room is to be seen in an answer: %+v", b)
		}
	}
	checkRefusal(t, answer)
	return answer
}

// checkRefusal holds what is told beside a code against chapter 3; NatIn tells no book.
func checkRefusal(t *testing.T, a told) {
	t.Helper()
	if a.code == 0 {
		return
	}
	if a.flow != (impl.NatFlow{}) {
		t.Errorf("beside code %d there is a flow: %+v", a.code, a.flow)
	}
	if a.code == 1 && !sameBook(a.book, impl.NatBook{}) {
		t.Errorf("beside code 1 there is a book: %+v", a.book)
	}
}

// goOut is NatOut, asked with care.
func goOut(t *testing.T, b impl.NatBook, f impl.NatFlow) told {
	t.Helper()
	a := ask(t, b, outOf(f))
	if a.code == 0 {
		if want := (impl.NatFlow{Kind: f.Kind, From: b.Own, FromPort: a.flow.FromPort, To: f.To, ToPort: f.ToPort}); a.flow != want {
			t.Errorf("%+v goes out as %+v", f, a.flow)
		}
	}
	checkBookBehind(t, b, a)
	return a
}

// comeIn is NatIn, asked with care.
func comeIn(t *testing.T, b impl.NatBook, f impl.NatFlow) told {
	t.Helper()
	a := ask(t, b, inOf(f))
	if a.code == 0 {
		if want := (impl.NatFlow{Kind: f.Kind, From: f.From, FromPort: f.FromPort, To: a.flow.To, ToPort: a.flow.ToPort}); a.flow != want {
			t.Errorf("%+v comes in as %+v", f, a.flow)
		}
	}
	return a
}

// passTick is NatTick, asked with care.
func passTick(t *testing.T, b impl.NatBook) told {
	t.Helper()
	a := ask(t, b, tickOf)
	checkBookBehind(t, b, a)
	return a
}

// checkBookBehind sees that a book stays beside a code, and that else a book that was ok is ok, with its own numbers but Now.
func checkBookBehind(t *testing.T, b impl.NatBook, a told) {
	t.Helper()
	if a.code > 1 && !sameBook(a.book, b) {
		t.Errorf("with code %d the book does not stay: %+v, behind it %+v", a.code, b, a.book)
	}
	if a.code == 0 {
		want := b
		want.Entries, want.Now = a.book.Entries, a.book.Now
		if !sameBook(a.book, want) || !impl.NatBookOk(a.book) {
			t.Errorf("%+v, behind it %+v", b, a.book)
		}
	}
}

// afterTicks is the book behind n ticks that are not refused.
func afterTicks(t *testing.T, b impl.NatBook, n int) impl.NatBook {
	t.Helper()
	for range n {
		a := passTick(t, b)
		if a.code != 0 {
			t.Fatalf("a tick is refused with code %d: %+v", a.code, b)
		}
		b = a.book
	}
	return b
}

// wantOut sends a flow out, wants the code, and with 0 the port; it tells the book behind that.
func wantOut(t *testing.T, name string, b impl.NatBook, f impl.NatFlow, code, port int) impl.NatBook {
	t.Helper()
	a := goOut(t, b, f)
	if a.code != code || code == 0 && a.flow.FromPort != port {
		t.Fatalf("%s: code %d and port %d, not %d and %d: %+v out of %+v", name, a.code, a.flow.FromPort, code, port, f, b)
	}
	return a.book
}

// wantOutStays is wantOut of a flow that leaves the book as it is.
func wantOutStays(t *testing.T, name string, b impl.NatBook, f impl.NatFlow, port int) {
	t.Helper()
	if behind := wantOut(t, name, b, f, 0, port); !sameBook(behind, b) {
		t.Errorf("%s: the book does not stay: %+v, behind it %+v", name, b, behind)
	}
}

// wantIn lets a flow come in, and wants it to come to an address and a port.
func wantIn(t *testing.T, name string, b impl.NatBook, f impl.NatFlow, inner, port int) {
	t.Helper()
	if a := comeIn(t, b, f); a.code != 0 || a.flow.To != inner || a.flow.ToPort != port {
		t.Errorf("%s: code %d to %d, %d, not to %d, %d: %+v in to %+v", name, a.code, a.flow.To, a.flow.ToPort, inner, port, f, b)
	}
}

// wantNotIn wants NatIn to refuse a flow.
func wantNotIn(t *testing.T, name string, b impl.NatBook, f impl.NatFlow, code int) {
	t.Helper()
	if a := comeIn(t, b, f); a.code != code {
		t.Errorf("%s: code %d, not %d: %+v in to %+v", name, a.code, code, f, b)
	}
}

// wantTick wants a code of NatTick; it tells the book behind it.
func wantTick(t *testing.T, name string, b impl.NatBook, code int) impl.NatBook {
	t.Helper()
	a := passTick(t, b)
	if a.code != code {
		t.Fatalf("%s: code %d, not %d: a tick of %+v", name, a.code, code, b)
	}
	return a.book
}
