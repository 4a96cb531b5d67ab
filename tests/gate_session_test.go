package tests

import (
	"fmt"
	"math/rand"
	"slices"
	"strconv"
	"strings"
	"testing"

	"loop.example/portreeve/impl"
)

// exampleLines is the lines of the document's example.
func exampleLines() []string {
	return []string{
		"tenant acme ann - 0 0 ", "user acme ann - 0 0 bob plan write", "user acme ann - 0 0 cy approve", "space acme ann prod 0 110 ", "conf acme bob prod 0 0 thing net.b\n  zone \"eu\"\nend\nthing vm.a\n  link @net.b.id\n  size 2\nend\n",
		"policy acme ann prod 0 0 deny X if act delete X\n", "plan acme bob prod 0 0 ", "step acme - prod 0 0 ", "approve acme cy prod 1 0 51fafc14534f4071cd1debc854b3e002f2e07c89d7fe752fc0bdbc30fb9ad594", "step acme - prod 0 0 ", "step acme - prod 0 0 ",
		"cut 1 0 step acme - prod 0 0 ", "open", "step acme - prod 0 0 ", "step acme - prod 0 0 ", "step acme - prod 0 0 ", "conf acme bob prod 0 0 ", "plan acme bob prod 0 0 ",
	}
}

// exampleBoard is what the document's example ends with.
const exampleBoard = `now 0, 16 entries, 16 records
tenant acme
user ann owner
user bob plan write
user cy approve
space prod, 1 approve, 10 acts, version 2
net.b {id:"i-e7068b",zone:"eu"}
vm.a {id:"i-618a41",link:"i-e7068b",size:2} net.b
run 1 by bob done 2 of 2, approved by 1, 51fafc14
run 2 by bob denied 0 of 2, approved by 0, 93d8bb5d
tenant ann - 0 0 e3b0c44298fc
user ann - 0 0 71b0d8bb8516
user ann - 0 0 6483e3027478
space ann prod 0 110 e3b0c44298fc
conf bob prod 0 0 3e88b395d2c4
policy ann prod 0 0 ffea99973cb2
plan bob prod 0 0 e3b0c44298fc
refuse - prod 0 0 e3b0c44298fc step 10
approve cy prod 1 0 239593ee6a95
step - prod 0 0 e3b0c44298fc
step - prod 0 0 e3b0c44298fc
step - prod 0 0 e3b0c44298fc
step - prod 0 0 e3b0c44298fc
step - prod 0 0 e3b0c44298fc
conf bob prod 0 0 e3b0c44298fc
plan bob prod 0 0 e3b0c44298fc
world acme/prod/1/0 create net.b {zone:"eu"}
world acme/prod/1/1 create vm.a {link:"i-e7068b",size:2} net.b
`

// P60: the document's example, word by word; the key is in nothing of it.
func TestGateExample(t *testing.T) {
	for _, key := range []string{"", "key", "\x00"} {
		want := "0\n0\n0\n0\n0\n0\n0\n10\n0\n0\n0\n14\n0\n0\n0\n0\n0\n0\n" + exampleBoard
		if got := impl.GateSession(key, exampleLines()); got != want {
			t.Errorf("by the key %q:\n%s", key, got)
		}
	}
}

// P60: GateBoard by hand.
func TestGateBoard(t *testing.T) {
	s := impl.GateNew(someKey)
	if got := impl.GateBoard(s); got != "now 0, 0 entries, 0 records\n" {
		t.Errorf("%q", got)
	}
	s = plays(t, s, tick, tick, "3: plan acme bob prod 0 0 ", "2: tenant - ann - 0 0 ")
	if got := impl.GateBoard(s); got != "now 2, 0 entries, 4 records\n" {
		t.Errorf("%q", got)
	}
	s = plays(t, s, "tenant beta zoe - 0 0 ", "tenant acme ann - 0 0 ", "space beta zoe prod 0 3 ", "space acme ann prod 0 210 ", "space acme ann dev 0 0 ", "4: space acme zoe test 0 0 ")
	want := "now 2, 6 entries, 10 records\n" +
		"tenant acme\nuser ann owner\nspace dev, 0 approve, 0 acts, version 0\nspace prod, 2 approve, 10 acts, version 0\ntenant ann - 0 0 e3b0c44298fc\nspace ann prod 0 210 e3b0c44298fc\nspace ann dev 0 0 e3b0c44298fc\nrefuse zoe test 0 0 e3b0c44298fc space 4\n" +
		"tenant beta\nuser zoe owner\nspace prod, 0 approve, 3 acts, version 0\ntenant zoe - 0 0 e3b0c44298fc\nspace zoe prod 0 3 e3b0c44298fc\n"
	if got := impl.GateBoard(s); got != want {
		t.Errorf("%s", got)
	}
	s.Cloud = calls(3)
	s.Cloud[0].Text, s.Cloud[1].Text, s.Cloud[2].Text = "delete vm.a\n", "", "any"
	if got := impl.GateBoard(s); got != want+"world key 000 delete vm.a\nworld key 001 \nworld key 002 any\n" {
		t.Errorf("%s", got)
	}
	down := unhoused(s)
	if got := impl.GateBoard(down); got != "down\n" {
		t.Errorf("%q", got)
	}
	for what, s := range map[string]impl.Gate{
		"loose": altered(s, func(s *impl.Gate) { s.Tape.Loose = pieces(tick) }), "down and loose": altered(down, func(s *impl.Gate) { s.Tape.Loose = pieces(tick) }),
		"now": altered(s, func(s *impl.Gate) { s.House.Now++ }), "down, now": altered(down, func(s *impl.Gate) { s.House.Now++ }),
	} {
		if got := impl.GateBoard(s); got != "" {
			t.Errorf("%s: %q", what, got)
		}
	}
	if got := impl.GateBoard(city(t)); !strings.Contains(got, "\nworld acme/prod/2/1 update vm.a {link:\"i-e56a40\",size:2} net.b\nworld beta/prod/1/0 create net.b {zone:\"eu\"}\n") || !strings.HasSuffix(got, "\nworld beta/prod/2/2 delete vm.b\n") {
		t.Errorf("%s", got)
	}
	for name, s := range gates(t) {
		if got := impl.GateBoard(s); got == "" || got != modelBoard(s) || !strings.HasSuffix(got, "\n") {
			t.Errorf("%s: %s", name, got)
		}
	}
}

// noLines is lines that say nothing.
func noLines() []string {
	lines := []string{
		"", " ", "\n", "what", "board", "crash 1", "open ", " open", "Open", "open\n", "opens", "open open", "-", "cut", "cut ", "cut 1", "cut 1 ", "cut 1 0", "cut 1 0 ", "cut 1 0 open", "cut 1 0 what", "cut 1 0 cut 1 0 " + tick, "cut 4 0 open", "cut 4 0 ",
		"tick", "tick - - - 0 0", "tick - - - 0 0\n", " " + tick, "tick  - - - 0 0 ", "tick - - - 00 0 ", "tick - - - 0 0 \t", "Tick - - - 0 0 ", "ticks - - - 0 0 ", "tick - - - -1 0 ", "tick - - - 10000 0 ", "tick - - - 0 1000000 ", "tick A - - 0 0 ", "tick - - 0 0 ", "tick - - - 0 0 " + strings.Repeat("x", 1201), "tick - - - 0 0 é",
	}
	for _, cut := range []string{
		"cut 0 0 ", "cut 4 0 ", "cut 5 0 ", "cut -1 0 ", "cut 01 0 ", "cut +1 0 ", "cut 1.0 0 ", "cut x 0 ", "cut 14 0 ", "cut 18446744073709551617 0 ", "cut  0 ", "cut 1  ", "cut 1 ", "cut 1 -1 ", "cut 1 -0 ", "cut 1 +1 ", "cut 1 00 ", "cut 1 01 ", "cut 1 007 ", "cut 1 1000000 ", "cut 1 9999999 ", "cut 1 18446744073709551616 ", "cut 1 x ", "cut 1 0x1 ", "cut 1 1e1 ", "cut 1 1_0 ", "cut 1 0  ", "cut  1 0 ", "cut 1  0 ", " cut 1 0 ", "Cut 1 0 ", "cut\t1 0 ", "cut 1\n0 ", "cut 1 0\n", "cut 1 0\t", "cuts 1 0 ", "cut10 ", "cut 1 0 0 ", "cut 1,0 ",
	} {
		lines = append(lines, cut+tick)
	}
	return lines
}

// P60: each line that is none, by itself, and between others, where it changes nothing.
func TestGateNoLines(t *testing.T) {
	for _, line := range noLines() {
		if got := impl.GateSession("key", []string{line}); got != "what\nnow 0, 0 entries, 0 records\n" {
			t.Errorf("%q: %q", line, got)
		}
		if got := impl.GateSession("key", []string{tick, line, "cut 2 0 " + tick, line, "open"}); got != "0\nwhat\n14\nwhat\n0\nnow 2, 0 entries, 2 records\n" {
			t.Errorf("%q: %q", line, got)
		}
	}
	if got := impl.GateSession("key", slices.Repeat([]string{"x"}, 10000)); got != strings.Repeat("what\n", 10000)+"now 0, 0 entries, 0 records\n" {
		t.Error("10000 lines that are none")
	}
	if got := impl.GateSession("key", []string{strings.Repeat("cut ", 1<<18), strings.Repeat(" ", 1<<20), "cut 1 " + strings.Repeat("9", 1<<20) + " " + tick}); got != "what\nwhat\nwhat\nnow 0, 0 entries, 0 records\n" {
		t.Error("long lines")
	}
}

// P60: sessions by hand.
func TestGateSession(t *testing.T) {
	for _, x := range []struct {
		lines []string
		want  string
	}{
		{nil, "now 0, 0 entries, 0 records\n"},
		{[]string{"open"}, "0\nnow 0, 0 entries, 0 records\n"},
		{[]string{"open", "open", tick, "open", tick, "open"}, "0\n0\n0\n0\n0\n0\nnow 2, 0 entries, 2 records\n"},
		{[]string{tick, "cut 1 0 " + tick}, "0\n14\ndown\n"},
		{[]string{tick, "cut 1 0 " + tick, tick, "cut 2 0 " + tick, "what", "cut 3 9 " + tick}, "0\n14\n12\n12\nwhat\n12\ndown\n"},
		{[]string{tick, "cut 1 0 " + tick, "open"}, "0\n14\n0\nnow 1, 0 entries, 1 records\n"},
		{[]string{tick, "cut 1 999999 " + tick, "open"}, "0\n14\n0\nnow 1, 0 entries, 1 records\n"},
		{[]string{tick, "cut 2 0 " + tick, "open"}, "0\n14\n0\nnow 2, 0 entries, 2 records\n"},
		{[]string{tick, "cut 3 0 " + tick, "open"}, "0\n14\n0\nnow 1, 0 entries, 1 records\n"},
		{[]string{tick, "cut 3 28 " + tick, "open", tick}, "0\n14\n0\n0\nnow 2, 0 entries, 2 records\n"},
		{[]string{tick, "cut 3 29 " + tick, "open", tick}, "0\n14\n0\n0\nnow 3, 0 entries, 3 records\n"},
		{[]string{tick, "cut 3 999999 " + tick, "open"}, "0\n14\n0\nnow 2, 0 entries, 2 records\n"},
		{[]string{"tenant acme ann - 0 0 ", "tenant acme ann - 0 0 ", "tick acme ann x 9999 999999 \n ~", "plan acme bob prod 0 0 ", "plan beta bob prod 0 0 "}, "0\n5\n0\n4\n3\nnow 1, 2 entries, 5 records\ntenant acme\nuser ann owner\ntenant ann - 0 0 e3b0c44298fc\nrefuse bob prod 0 0 e3b0c44298fc plan 4\n"},
		{slices.Repeat([]string{tick}, 222), strings.Repeat("0\n", 220) + "13\n13\nnow 220, 0 entries, 220 records\n"},
		{append(slices.Repeat([]string{tick}, 220), "cut 1 0 "+tick, "open"), strings.Repeat("0\n", 220) + "13\n0\nnow 220, 0 entries, 220 records\n"},
	} {
		if got := impl.GateSession(someKey, x.lines); got != x.want {
			t.Errorf("%.200q: %q", x.lines, got)
		}
	}
	if len(piece(tick)) != 29 {
		t.Error("a tick's piece has", len(piece(tick)))
	}
	asks := exampleLines()[:11]
	for _, x := range []struct {
		lines []string
		codes string
	}{
		{[]string{"cut 1 0 step acme - prod 0 0 ", "open", "step acme - prod 0 7 "}, "14\n0\n0\n"},
		{[]string{"cut 2 0 step acme - prod 0 0 ", "open"}, "14\n0\n"},
		{[]string{"cut 3 30 step acme - prod 0 0 ", "open", "cut 3 0 step acme - prod 0 1 ", "open", "step acme - prod 0 999999 "}, "14\n0\n14\n0\n0\n"},
		{[]string{"step acme - prod 0 0 "}, "0\n"},
	} {
		got := impl.GateSession(someKey, slices.Concat(asks, x.lines, exampleLines()[14:]))
		if want := "0\n0\n0\n0\n0\n0\n0\n10\n0\n0\n0\n" + x.codes + "0\n0\n0\n0\n" + exampleBoard; got != want {
			t.Errorf("%q:\n%s", x.lines, got)
		}
	}
}

// P60: sessions by chance are what GateDo makes of their lines, one by one.
func TestGateSessionAny(t *testing.T) {
	r := rand.New(rand.NewSource(180))
	none := noLines()
	for range 6 {
		s, want := impl.GateNew(someKey), ""
		var lines []string
		for _, line := range saga() {
			if line = reqText(event(t, s, line).Req); !s.Up {
				line = "open"
			}
			switch r.Intn(6) {
			case 0:
				lines = append(lines, none[r.Intn(len(none))])
				want += "what\n"
			case 1:
				if line != "open" {
					line = fmt.Sprintf("cut %d %d %s", 1+r.Intn(3), r.Intn(50), line)
				}
			}
			got, code := happened(t, s, event(t, s, line))
			s = got
			lines = append(lines, line)
			want += strconv.Itoa(code) + "\n"
		}
		want += impl.GateBoard(s)
		given := slices.Clone(lines)
		if got := impl.GateSession(someKey, lines); got != want || !slices.Equal(lines, given) {
			t.Fatalf("%q\n%s\nnot\n%s", lines, got, want)
		}
	}
}

// P60: a new gate has nothing but its key, is up, ok and safe.
func TestGateNew(t *testing.T) {
	for _, key := range []string{"", "key", "\x00\xff\n", strings.Repeat("k", 1<<16)} {
		s := impl.GateNew(key)
		if !alike(s, impl.Gate{House: impl.House{Key: key}, Up: true}) || !impl.GateOk(s) || !impl.GateSafe(s) || impl.GateBoard(s) != "now 0, 0 entries, 0 records\n" {
			t.Errorf("%.40q: %.200v", key, s)
		}
	}
}
