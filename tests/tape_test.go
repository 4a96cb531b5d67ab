package tests

import (
	"math/rand"
	"slices"
	"strconv"
	"strings"
	"testing"

	"loop.example/portreeve/impl"
)

// someRecords is records of all kinds, some of which look like pieces themselves.
func someRecords() []string {
	return []string{
		"one", "", "\n", "two\nlines\n", " ", "r", "r 3", "r 3 " + wantSum("one")[:8], piece("one"), piece(""), piece(piece("one")), piece("one") + piece("two"), "\n" + piece("one"), piece("one") + "\n",
		someBytes(300), "\x00\xff", "é", strings.Repeat("x", 2000), strings.Repeat("\n", 2000), piece("one")[:9], "tick - - - 0 0 ",
	}
}

// added is a tape with records, those ahead of a place safe.
func added(t *testing.T, safe int, records ...string) impl.Tape {
	var tape impl.Tape
	for i, record := range records {
		if i == safe {
			tape = impl.TapeSync(tape)
		}
		next, ok := impl.TapeAdd(tape, record)
		if !ok {
			t.Fatalf("%.40q has no room", record)
		}
		tape = next
	}
	if safe >= len(records) {
		tape = impl.TapeSync(tape)
	}
	return tape
}

// A record stands on a tape as the document says, and comes behind all others.
func TestTapeAdd(t *testing.T) {
	for _, record := range someRecords() {
		for _, before := range []impl.Tape{{}, {Safe: pieces("a")}, {Loose: pieces("b", "c")}, {Safe: pieces("a", "b"), Loose: pieces("c")}, {Safe: []string{"no piece", ""}, Loose: []string{"", "nor this"}}} {
			got, ok := impl.TapeAdd(before, record)
			want := impl.Tape{Safe: before.Safe, Loose: append(slices.Clone(before.Loose), piece(record))}
			if !ok || !sameTape(got, want) {
				t.Errorf("%.40q behind %q: %q, %v", record, before, got, ok)
			}
		}
	}
	if got, _ := impl.TapeAdd(impl.Tape{}, "abc"); !slices.Equal(got.Loose, []string{"r 3 ba7816bf\nabc"}) {
		t.Errorf("%q", got)
	}
	if got, _ := impl.TapeAdd(impl.Tape{}, ""); !slices.Equal(got.Loose, []string{"r 0 e3b0c442\n"}) {
		t.Errorf("%q", got)
	}
}

// As many and as long as there may be, and one more.
func TestTapeRoom(t *testing.T) {
	for size, want := range map[int]bool{1999: true, 2000: true, 2001: false, 1 << 20: false} {
		got, ok := impl.TapeAdd(impl.Tape{Safe: pieces("a")}, strings.Repeat("x", size))
		if ok != want || !ok && !sameTape(got, impl.Tape{}) {
			t.Errorf("a record of %d bytes: %v", size, ok)
		}
	}
	for _, x := range []struct {
		safe, loose int
		ok          bool
	}{{0, 219, true}, {219, 0, true}, {100, 119, true}, {0, 220, false}, {220, 0, false}, {100, 120, false}, {110, 110, false}, {219, 1, false}, {0, 221, false}, {221, 0, false}, {1000, 1000, false}} {
		before := impl.Tape{Safe: slices.Repeat(pieces("a"), x.safe), Loose: slices.Repeat(pieces("b"), x.loose)}
		got, ok := impl.TapeAdd(before, "c")
		if ok != x.ok || ok && len(got.Safe)+len(got.Loose) != 220 || !ok && !sameTape(got, impl.Tape{}) {
			t.Errorf("behind %d and %d: %v", x.safe, x.loose, ok)
		}
	}
	if got, ok := impl.TapeAdd(impl.Tape{Safe: make([]string, 220)}, "c"); ok || !sameTape(got, impl.Tape{}) {
		t.Error("behind 220 that are no pieces")
	}
	for _, n := range []int{219, 220, 221, 500} {
		tape := impl.Tape{Safe: slices.Repeat(pieces("a"), n)}
		records, opened := impl.TapeOpen(tape)
		if want := min(n, 220); !slices.Equal(records, slices.Repeat([]string{"a"}, want)) || !sameTape(opened, impl.Tape{Safe: tape.Safe[:want]}) {
			t.Errorf("of %d: %d", n, len(records))
		}
	}
	for size, want := range map[int]int{2000: 2, 2001: 1, 1 << 20: 1} {
		records, opened := impl.TapeOpen(impl.Tape{Safe: pieces("a", strings.Repeat("x", size))})
		if len(records) != want || len(opened.Safe) != want {
			t.Errorf("a piece of %d bytes: %d", size, len(records))
		}
	}
}

func TestTapeSync(t *testing.T) {
	for _, x := range []struct{ before, want impl.Tape }{
		{impl.Tape{}, impl.Tape{}},
		{impl.Tape{Safe: []string{"a", ""}}, impl.Tape{Safe: []string{"a", ""}}},
		{impl.Tape{Loose: []string{"b", "", "a"}}, impl.Tape{Safe: []string{"b", "", "a"}}},
		{impl.Tape{Safe: []string{"b"}, Loose: []string{"a", "b", ""}}, impl.Tape{Safe: []string{"b", "a", "b", ""}}},
		{impl.Tape{Safe: slices.Repeat([]string{"a"}, 300), Loose: []string{"b"}}, impl.Tape{Safe: append(slices.Repeat([]string{"a"}, 300), "b")}},
	} {
		if got := impl.TapeSync(x.before); !sameTape(got, x.want) {
			t.Errorf("%q: %q", x.before, got)
		}
	}
}

// What TapeCrash keeps, at each edge of both numbers.
func TestTapeCrash(t *testing.T) {
	tape := impl.Tape{Safe: []string{"a", "bc"}, Loose: []string{"def", "", "gh"}}
	for _, x := range []struct {
		whole, torn int
		kept        []string
	}{
		{0, 0, nil}, {-1, 0, nil}, {-1 << 63, -1 << 63, nil}, {0, -1, nil}, {0, 1, []string{"d"}}, {-5, 2, []string{"de"}}, {0, 3, []string{"def"}}, {0, 4, []string{"def"}}, {0, 1<<63 - 1, []string{"def"}},
		{1, 0, []string{"def"}}, {1, -1, []string{"def"}}, {1, 1, []string{"def", ""}}, {1, 9, []string{"def", ""}}, {2, 0, []string{"def", ""}}, {2, -3, []string{"def", ""}}, {2, 1, []string{"def", "", "g"}}, {2, 2, []string{"def", "", "gh"}}, {2, 3, []string{"def", "", "gh"}},
		{3, 0, []string{"def", "", "gh"}}, {3, 1, []string{"def", "", "gh"}}, {4, 5, []string{"def", "", "gh"}}, {1<<63 - 1, 1<<63 - 1, []string{"def", "", "gh"}}, {1<<63 - 1, 0, []string{"def", "", "gh"}},
	} {
		if got := impl.TapeCrash(tape, x.whole, x.torn); !slices.Equal(got.Safe, append([]string{"a", "bc"}, x.kept...)) || len(got.Loose) != 0 {
			t.Errorf("%d and %d: %q", x.whole, x.torn, got)
		}
		for _, none := range []impl.Tape{{}, {Safe: []string{"a", "r"}}} {
			if got := impl.TapeCrash(none, x.whole, x.torn); !sameTape(got, none) {
				t.Errorf("%d and %d of none: %q", x.whole, x.torn, got)
			}
		}
	}
}

// openedAs asks that a tape tells records, and opens as the tape of their pieces, which opens as itself.
func openedAs(t *testing.T, tape impl.Tape, want []string) {
	t.Helper()
	records, opened := impl.TapeOpen(tape)
	if !slices.Equal(records, want) || !slices.Equal(records, modelOpen(tape)) || !sameTape(opened, impl.Tape{Safe: tape.Safe[:len(want)]}) {
		t.Errorf("%.200q opens as %.200q, %.200q", tape, records, opened)
	}
	again, same := impl.TapeOpen(opened)
	if !slices.Equal(again, records) || !sameTape(same, opened) {
		t.Errorf("%.200q does not open as itself", opened)
	}
}

// P41, of each record torn at each of its bytes, behind some and ahead of some.
func TestTapeTorn(t *testing.T) {
	for _, record := range someRecords() {
		whole := piece(record)
		for n := range len(whole) + 1 {
			if len(whole) > 400 && n > 30 && n < len(whole)-3 && n%97 != 0 {
				continue
			}
			for _, ahead := range [][]string{nil, {"a"}, {"a", piece("b")}} {
				want := slices.Clone(ahead)
				if n == len(whole) {
					want = append(want, record, "later")
				}
				openedAs(t, impl.Tape{Safe: append(append(pieces(ahead...), whole[:n]), piece("later"))}, want)
				openedAs(t, impl.Tape{Safe: append(pieces(ahead...), whole[:n])}, want[:min(len(want), len(ahead)+1)])
			}
		}
	}
}

// P41: what is no piece of a record is none, wherever it stands.
func TestTapeNoPiece(t *testing.T) {
	sum, empty, other := wantSum("one")[:8], wantSum("")[:8], wantSum("two")[:8]
	for i, none := range []string{
		"", "\n", "one", "r", "r ", "r 3", "r 3 " + sum, "r 3 " + sum + "one", "r 3 " + sum + " one", "r 3 " + sum + "\non", "r 3 " + sum + "\none\n", "r 3 " + sum + "\nonee", "r 3 " + sum + "\n\none", "r 3 " + sum + " \none", "r 3 " + sum + "\r\none", "r 3 " + sum + "\nOne",
		"r 03 " + sum + "\none", "r 003 " + sum + "\none", "r +3 " + sum + "\none", "r -3 " + sum + "\none", "r 2 " + sum + "\none", "r 4 " + sum + "\none", "r 2 " + sum + "\non", "r 2 " + wantSum("on")[:8] + "\none", "r 4 " + wantSum("one\n")[:8] + "\none", "r 3  " + sum + "\none", "r  3 " + sum + "\none", " r 3 " + sum + "\none", "r\n3 " + sum + "\none", "R 3 " + sum + "\none", "s 3 " + sum + "\none", "3 " + sum + "\none", "r " + sum + "\none", "r 3\none", "r 3 \none", "r x " + sum + "\none", "r 3.0 " + sum + "\none", "r 99999999999999999999 " + sum + "\none",
		"r 3 " + other + "\none", "r 3 " + empty + "\none", "r 3 " + strings.ToUpper(sum) + "\none", "r 3 " + sum[:7] + "\none", "r 3 " + wantSum("one")[:9] + "\none", "r 3 " + wantSum("one") + "\none", "r 3 00000000\none", "r 3 " + wantSum("one")[8:16] + "\none", "r 0 " + empty, "r 0 " + sum + "\n", "r 00 " + empty + "\n", "r -0 " + empty + "\n", "r 1 " + empty + "\n",
		piece("one") + "\n", piece("one") + piece("two"), "\n" + piece("one"), piece("one")[1:], piece("one")[:len(piece("one"))-1], "r 2001 " + wantSum(strings.Repeat("x", 2001))[:8] + "\n" + strings.Repeat("x", 2001), strings.Repeat("r", 1<<20), strings.Repeat("\n", 1<<20),
	} {
		for _, ahead := range [][]string{nil, {"a"}, {"a", "b"}} {
			records, opened := impl.TapeOpen(impl.Tape{Safe: append(append(pieces(ahead...), none), pieces("one", "two")...)})
			if !slices.Equal(records, ahead) || !sameTape(opened, impl.Tape{Safe: pieces(ahead...)}) {
				t.Errorf("case %d, %.60q, behind %d: %.60q", i, none, len(ahead), records)
			}
		}
	}
	openedAs(t, impl.Tape{}, nil)
	openedAs(t, impl.Tape{Safe: pieces("a"), Loose: pieces("b", "c")}, []string{"a"})
	openedAs(t, impl.Tape{Loose: pieces("b", "c")}, nil)
}

// P40: wherever power fails, all that was safe is there, and of the rest a beginning.
func TestTapeKept(t *testing.T) {
	records := someRecords()
	for safe := range len(records) + 1 {
		tape := added(t, safe, records...)
		for whole := -1; whole <= len(records)-safe+1; whole++ {
			kept := min(len(records), safe+max(whole, 0))
			size := 0
			if kept < len(records) {
				size = len(piece(records[kept]))
			}
			for _, torn := range []int{-1, 0, 1, size / 2, size - 1, size, size + 1, 1 << 40} {
				want := records[:kept]
				if kept < len(records) && torn >= size {
					want = records[:kept+1]
				}
				openedAs(t, impl.TapeCrash(tape, whole, torn), want)
			}
		}
	}
}

// P40, P42, by chance: records are added, made safe, lost and got again, again and again.
func TestTapeAny(t *testing.T) {
	r := rand.New(rand.NewSource(111))
	for range 300 {
		var tape impl.Tape
		var held []string // all records that are there, the first of them safe
		safe := 0
		for step := range 60 {
			switch r.Intn(5) {
			case 0:
				tape, safe = impl.TapeSync(tape), len(held)
			case 1:
				records, opened := impl.TapeOpen(impl.TapeCrash(tape, r.Intn(6)-1, r.Intn(60)-5))
				if len(records) < safe || len(records) > len(held) || !slices.Equal(records, held[:len(records)]) {
					t.Fatalf("%q of %q, %d of them safe", records, held, safe)
				}
				tape, held, safe = opened, records, len(records)
			default:
				record := someRecords()[r.Intn(17)] + strconv.Itoa(step)
				next, ok := impl.TapeAdd(tape, record)
				if !ok {
					t.Fatalf("%q has no room", record)
				}
				tape, held = next, append(held, record)
				records, _ := impl.TapeOpen(impl.TapeSync(tape))
				if len(records) == 0 || records[len(records)-1] != record || len(records) != len(held) {
					t.Fatalf("%q is not the last of %q", record, records)
				}
			}
		}
	}
}

// P42, of each record behind pieces that are whole, and behind one that is not.
func TestTapeLast(t *testing.T) {
	for _, record := range someRecords() {
		for _, before := range []impl.Tape{{}, {Safe: pieces("a", "")}, {Loose: pieces("a", "b")}, {Safe: pieces("a"), Loose: pieces("b")}, {Safe: slices.Repeat(pieces("a"), 219)}} {
			tape, ok := impl.TapeAdd(before, record)
			records, _ := impl.TapeOpen(impl.TapeSync(tape))
			if n := len(before.Safe) + len(before.Loose); !ok || len(records) != n+1 || records[n] != record {
				t.Errorf("%.40q: %v, %d", record, ok, len(records))
			}
		}
		tape, _ := impl.TapeAdd(impl.Tape{Safe: pieces("a"), Loose: []string{"torn"}}, record)
		openedAs(t, impl.TapeSync(tape), []string{"a"})
	}
}
