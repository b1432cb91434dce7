package tests

import (
	"testing"

	"loop.example/ternnat/impl"
)

// begun is a book in which plainFlow went out under port 40, at its Now.
func begun(t *testing.T, now int) impl.NatBook {
	t.Helper()
	b := bareBook()
	b.Now = now
	return wantOut(t, "begun", b, plainFlow(), 0, 40)
}

// checkEntries wants Outer and Last of each entry, in order.
func checkEntries(t *testing.T, name string, b impl.NatBook, want ...[2]int) {
	t.Helper()
	ok := len(b.Entries) == len(want)
	for i, w := range want {
		ok = ok && b.Entries[i].Outer == w[0] && b.Entries[i].Last == w[1]
	}
	if !ok {
		t.Fatalf("%s: entries %+v, not with Outer and Last %v", name, b.Entries, want)
	}
}

// An entry lives for 8 ticks, the one in which it went out among them, rests for 4, and is gone.
func TestAgesOfAnEntry(t *testing.T) {
	for _, start := range []int{0, 1, 100, 999988} {
		b := begun(t, start)
		answer := impl.NatFlow{Kind: 1, From: 51202, FromPort: 80, To: 51201, ToPort: 40}
		for age := range 13 {
			name := map[bool]string{true: "lives", false: "does not live"}[age < 8]
			if b.Now != start+age {
				t.Fatalf("Now is %d, not %d", b.Now, start+age)
			}
			if age < 8 {
				wantIn(t, name, b, answer, 2562, 7)
				checkEntries(t, "goes out again", wantOut(t, name, b, plainFlow(), 0, 40), [2]int{40, start + age})
			} else {
				wantNotIn(t, name, b, answer, 6)
			}
			if age >= 8 && age < 12 {
				checkEntries(t, "goes out anew", wantOut(t, name, b, plainFlow(), 0, 41), [2]int{40, start}, [2]int{41, start + age})
			}
			if age < 12 {
				checkEntries(t, name, b, [2]int{40, start})
				b = afterTicks(t, b, 1)
			}
		}
		checkEntries(t, "gone", b)
		checkEntries(t, "begun anew", wantOut(t, "gone", b, plainFlow(), 0, 40), [2]int{40, start + 12})
	}
}

// A flow that goes out again while its entry lives is kept from then on.
func TestGoesOutAgain(t *testing.T) {
	for age := range 8 {
		b := afterTicks(t, begun(t, 100), age)
		b = wantOut(t, "again", b, plainFlow(), 0, 40)
		checkEntries(t, "Last is Now", b, [2]int{40, 100 + age})
		answer := answerTo(b, b.Entries[0])
		b = afterTicks(t, b, 7)
		wantIn(t, "the last tick at which it lives", b, answer, 2562, 7)
		b = afterTicks(t, b, 1)
		wantNotIn(t, "the first at which it rests", b, answer, 6)
		b = afterTicks(t, b, 3)
		checkEntries(t, "the last at which it rests", b, [2]int{40, 100 + age})
		checkEntries(t, "the first at which it is gone", afterTicks(t, b, 1))
	}
}

// Kept by going out at the last tick at which it lives, an entry lives as long as one likes.
func TestKeptAlive(t *testing.T) {
	b := begun(t, 0)
	for i := range 30 {
		b = afterTicks(t, b, 7)
		b = wantOut(t, "kept", b, plainFlow(), 0, 40)
		checkEntries(t, "kept", b, [2]int{40, 7 * (i + 1)})
	}
}

// Answers do not keep an entry.
func TestAnswersKeepNothing(t *testing.T) {
	b := begun(t, 100)
	answer := answerTo(b, b.Entries[0])
	for range 8 {
		wantIn(t, "answered", b, answer, 2562, 7)
		wantIn(t, "answered once more", b, answer, 2562, 7)
		b = afterTicks(t, b, 1)
	}
	wantNotIn(t, "rests", b, answer, 6)
	checkEntries(t, "rests", b, [2]int{40, 100})
}

// A flow that goes out anew while its elder entry rests has another port; the elder stays as it is, and goes at its time.
func TestAnewWhileElderRests(t *testing.T) {
	for age := 8; age < 12; age++ {
		b := afterTicks(t, begun(t, 100), age)
		b = wantOut(t, "anew", b, plainFlow(), 0, 41)
		checkEntries(t, "both", b, [2]int{40, 100}, [2]int{41, 100 + age})
		elder, newer := answerTo(b, b.Entries[0]), answerTo(b, b.Entries[1])
		wantNotIn(t, "the elder", b, elder, 6)
		wantIn(t, "the newer", b, newer, 2562, 7)
		wantOutStays(t, "the newer", b, plainFlow(), 41)
		b = afterTicks(t, b, 11-age)
		checkEntries(t, "the elder rests yet", b, [2]int{40, 100}, [2]int{41, 100 + age})
		b = afterTicks(t, b, 1)
		checkEntries(t, "the elder is gone", b, [2]int{41, 100 + age})
		wantNotIn(t, "the elder", b, elder, 6)
		wantIn(t, "the newer", b, newer, 2562, 7)
		checkEntries(t, "the newer keeps its port", wantOut(t, "again", b, plainFlow(), 0, 41), [2]int{41, 112})
	}
}

// With one port there is no going out anew while the elder entry rests, for its own flow or any other.
func TestAnewWithOnePort(t *testing.T) {
	b := begun(t, 100)
	b.High = 40
	other := plainFlow()
	other.From = 2563
	for age := range 12 {
		if age < 8 {
			wantOut(t, "again", b, plainFlow(), 0, 40)
		} else {
			wantOut(t, "rests", b, plainFlow(), 5, 0)
		}
		wantOut(t, "another", b, other, 5, 0)
		b = afterTicks(t, b, 1)
	}
	b = wantOut(t, "another", b, other, 0, 40)
	wantIn(t, "to the other", b, answerTo(b, b.Entries[0]), 2563, 7)
	wantOut(t, "the first", b, plainFlow(), 5, 0)
}

// A tick takes away those that are too old, wherever they stand, and leaves all others as they are.
func TestTickTakesTheOld(t *testing.T) {
	for bits := range 1 << 8 {
		b := withEntries(manyEntries(16)...)
		var left [][2]int
		for i := range b.Entries {
			b.Entries[i].Last = 90 + i%11
			if bits>>(i%8)&1 == 1 {
				b.Entries[i].Last = 89
			} else {
				left = append(left, [2]int{40 + i, b.Entries[i].Last})
			}
		}
		behind := wantTick(t, "a tick", b, 0)
		if behind.Now != 101 {
			t.Errorf("Now is %d", behind.Now)
		}
		checkEntries(t, "left", behind, left...)
	}
	b := fullBook()
	b.Doors = manyDoors(6)
	if behind := wantTick(t, "doors stay", b, 0); behind.Now != 101 || len(behind.Doors) != 6 || len(behind.Entries) != 16 {
		t.Errorf("behind a tick: %+v", behind)
	}
}

// One flow, going out anew each time its entry begins to rest, has two ports in turn.
func TestOneFlowTakesTurns(t *testing.T) {
	b := begun(t, 0)
	for i := range 20 {
		b = afterTicks(t, b, 8)
		at := 8 * (i + 1)
		if i%2 == 0 {
			b = wantOut(t, "in turn", b, plainFlow(), 0, 41)
			checkEntries(t, "in turn", b, [2]int{40, at - 8}, [2]int{41, at})
		} else {
			b = wantOut(t, "in turn", b, plainFlow(), 0, 40)
			checkEntries(t, "in turn", b, [2]int{40, at}, [2]int{41, at - 8})
		}
	}
}
