package tests

import (
	"fmt"
	"slices"
	"strings"
	"testing"

	"loop.example/portreeve/impl"
)

// saga is lines of all kinds, let and refused, of two tenants with spaces of one name, with acts of all kinds; D stands for a digest.
func saga() []string {
	lines := append(of("acme", settled...), of("beta", settled...)...)
	lines = append(lines, "step acme - prod 0 0 ", "approve acme bob prod 1 0 D", "approve acme cy prod 1 0 x", "approve acme cy prod 1 0 D", "approve beta dee prod 1 0 D", tick)
	for range 4 {
		lines = append(lines, "step acme - prod 0 0 ", "step beta - prod 0 0 ")
	}
	lines = append(lines, "step beta - prod 0 9 ", "step acme ann prod 7 0 text", "step acme - prod 0 0 ", "step acme - prod 0 0 ", "conf acme bob prod 0 0 "+confOther, plans, "policy acme ann prod 0 0 deny X if act delete X\n", plans, "cancel acme dee prod 2 0 ", "policy acme ann prod 0 0 ", "plan acme dee prod 0 0 ", "conf acme bob prod 0 0 what", "approve acme cy prod 4 0 D")
	for range 7 {
		lines = append(lines, step)
	}
	return append(lines, step, "plan beta bob prod 0 0 ", "approve beta cy prod 2 0 D", "step beta - prod 0 0 ", "step beta - prod 0 0 ", "step beta - prod 0 3 ", "step none - prod 0 0 ", "tick beta - - 0 0 any")
}

// cutWays is ways in which an event is cut off, by how long its record's piece is, and how many bytes of that are left.
func cutWays(size int) map[impl.GateEvent]int {
	return map[impl.GateEvent]int{
		{Cut: 1}: 0, {Cut: 1, Keep: 1 << 40}: 0, {Cut: 2}: size, {Cut: 2, Keep: -7}: size, {Cut: 3, Keep: -1}: 0, {Cut: 3, Keep: -1 << 63}: 0, {Cut: 3}: 0, {Cut: 3, Keep: 1}: 1,
		{Cut: 3, Keep: size / 2}: size / 2, {Cut: 3, Keep: size - 1}: size - 1, {Cut: 3, Keep: size}: size, {Cut: 3, Keep: size + 1}: size, {Cut: 3, Keep: 1<<63 - 1}: size,
	}
}

// P56, P58: each event of a story cut off in each way, and opened: all stands as before, or as after.
func TestGateCut(t *testing.T) {
	s := impl.GateNew(someKey)
	for _, line := range saga() {
		e := event(t, s, line)
		after, _ := happened(t, s, e)
		last := after.Tape.Safe[len(after.Tape.Safe)-1]
		for cut, left := range cutWays(len(last)) {
			cut.Req = e.Req
			down, code := happened(t, s, cut)
			tape := s.Tape.Safe
			if left > 0 {
				tape = append(slices.Clone(tape), last[:left])
			}
			want := impl.Gate{House: impl.HouseNew(someKey), Tape: impl.Tape{Safe: tape}, Cloud: after.Cloud}
			if code != 14 || !alike(down, want) {
				t.Fatalf("%s: %d\n%+v", eventLine(cut), code, down)
			}
			opened, code := happened(t, down, impl.GateEvent{Cut: 4})
			want = s
			if left == len(last) {
				want = after
			}
			want.Cloud = after.Cloud
			if code != 0 || !alike(opened, want) {
				t.Fatalf("%s: %d, and opened\n%+v", eventLine(cut), code, opened)
			}
			if again, code := happened(t, opened, impl.GateEvent{Cut: 4}); code != 0 || !alike(again, opened) {
				t.Fatalf("%s: opened again\n%+v", eventLine(cut), again)
			}
		}
		s = after
	}
	if len(s.Cloud) != 7 || len(s.Tape.Safe) != len(saga()) {
		t.Errorf("%d calls\n%s", len(s.Cloud), impl.GateBoard(s))
	}
}

// P58: a gate that is ok is opened as it is, if it is up; and again the same, if it was down.
func TestGateOpen(t *testing.T) {
	for name, s := range gates(t) {
		got, code := impl.GateDo(s, impl.GateEvent{Cut: 4})
		if s.Up && (code != 0 || !alike(got, s)) || !s.Up && code == 0 && (!got.Up || !alike(got.Cloud, s.Cloud)) || code != 0 && !strings.Contains(name, "no request") {
			t.Errorf("%s: %d\n%+v", name, code, got)
		}
		if again, code2 := impl.GateDo(got, impl.GateEvent{Cut: 4}); code2 != code || !alike(again, got) {
			t.Errorf("%s: opened again: %d", name, code2)
		}
	}
	s := dark(t)
	torn := s.Tape.Safe[len(s.Tape.Safe)-1]
	for what, x := range map[string]struct {
		tape []string
		left int
	}{
		"the last piece torn":        {s.Tape.Safe, 59},
		"the last piece empty":       {append(slices.Clone(s.Tape.Safe[:59]), ""), 59},
		"a piece in the middle torn": {slices.Concat(s.Tape.Safe[:20], []string{torn}, s.Tape.Safe[20:]), 20},
		"the first piece torn":       {slices.Concat([]string{torn}, s.Tape.Safe), 0},
		"all whole":                  {s.Tape.Safe[:59], 59},
		"none":                       {nil, 0},
	} {
		one := altered(s, func(s *impl.Gate) { s.Tape.Safe = x.tape })
		got, code := impl.GateDo(one, impl.GateEvent{Cut: 4})
		h, _ := modelTapeSays(someKey, impl.Tape{Safe: x.tape[:x.left]})
		if code != 0 || !alike(got, impl.Gate{House: h, Tape: impl.Tape{Safe: x.tape[:x.left]}, Cloud: s.Cloud, Up: true}) {
			t.Errorf("%s: %d\n%+v", what, code, got)
		}
	}
	if got := plays(t, s, "open"); !alike(got, city(t)) {
		t.Error("what was torn is not as it was before")
	}
}

// again is ways to step once more behind a step that was cut off, with numbers of all kinds.
var again = []string{"step acme - prod 0 0 ", "step acme - prod 0 1 ", "step acme - prod 0 999999 "}

// P61: a call whose answer was lost is done under the same key, and the world does nothing twice.
func TestGateLost(t *testing.T) {
	s := asking(t)
	for n := range 3 {
		call, asks := impl.HouseCall(s.House, "acme", "prod")
		want := plays(t, s, step)
		if !asks || len(want.Cloud) != n+1 || !alike(want.Cloud[n], call) || want.Tape.Safe[len(want.Tape.Safe)-1] != piece(step) {
			t.Fatalf("%d calls, the world has %+v", n, want.Cloud)
		}
		for _, cut := range []string{"cut 1 0 ", "cut 3 0 ", "cut 3 1 ", "cut 3 20 ", "cut 3 34 "} {
			once := plays(t, s, cut+step, "open")
			if !alike(once.House, s.House) || !sameTape(once.Tape, s.Tape) || !alike(once.Cloud, want.Cloud) {
				t.Fatalf("%s: %+v", cut, once)
			}
			for _, more := range again {
				if got := plays(t, once, more); !alike(got, want) {
					t.Errorf("%s: %s: another gate\n%s", cut, more, impl.GateBoard(got))
				}
				for _, second := range []string{"cut 1 0 ", "cut 3 34 "} {
					twice := plays(t, once, second+more, "open")
					if !alike(twice, once) || !alike(plays(t, twice, again[2]), want) {
						t.Errorf("%s: %s: cut off twice, another gate", cut, more)
					}
				}
				behind := plays(t, once, "cut 2 0 "+more, "open")
				if whole := plays(t, once, "cut 3 9999 "+more, "open"); !alike(behind, want) || !alike(whole, want) {
					t.Errorf("%s: %s: cut off behind its record, another gate", cut, more)
				}
			}
		}
		for _, cut := range []string{"cut 2 0 ", "cut 3 35 ", "cut 3 9999 "} {
			if got := plays(t, s, cut+step, "open"); !alike(got, want) {
				t.Errorf("%s: another gate", cut)
			}
		}
		if n < 2 {
			s = plays(t, want, step)
		}
	}
}

// P61: other requests between do not lose the call; the run cannot be cancelled.
func TestGateLostBetween(t *testing.T) {
	s := asking(t)
	between := []string{tick, "7: cancel acme bob prod 1 0 ", "conf acme bob prod 0 0 ", "policy acme ann prod 0 0 deny vm.a\ndeny net.b\n", "plan acme bob prod 0 0 ", "user acme ann - 0 0 cy", "step acme - prod 0 5 ", "tenant beta ann - 0 0 "}
	got := plays(t, plays(t, s, "cut 1 0 "+step, "open"), between...)
	want := plays(t, s, tick, "7: cancel acme bob prod 1 0 ", "conf acme bob prod 0 0 ", "policy acme ann prod 0 0 deny vm.a\ndeny net.b\n", "plan acme bob prod 0 0 ", "user acme ann - 0 0 cy", step, "tenant beta ann - 0 0 ")
	if !alike(got, want) || run(&got.House, 1).At != 1 || len(got.Cloud) != 1 {
		t.Errorf("another gate\n%s", impl.GateBoard(got))
	}
	late := plays(t, plays(t, plays(t, s, "cut 1 0 "+step, "open"), slices.Repeat([]string{tick}, 25)...), "step acme - prod 0 1 ", step, "10: step acme - prod 0 0 ")
	if r := run(&late.House, 1); r.At != 1 || r.Stands != impl.RunFailed || len(late.Cloud) != 1 || len(prod(&late.House).State) != 1 {
		t.Errorf("behind the end of its credential: %+v", r)
	}
}

// P61: a step with a number above 0 asks nothing of the world, however it is cut off.
func TestGateNum(t *testing.T) {
	s := asking(t)
	for _, cut := range []string{"cut 1 0 ", "cut 2 0 ", "cut 3 0 ", "cut 3 9 ", "cut 3 9999 "} {
		for _, num := range []int{1, 999999} {
			line := fmt.Sprintf("step acme - prod 0 %d ", num)
			down := plays(t, s, cut+line)
			got := plays(t, down, "open")
			if len(down.Cloud) > 0 || len(got.Cloud) > 0 {
				t.Errorf("%s%s: a call", cut, line)
			}
			if whole := cut == "cut 2 0 " || cut == "cut 3 9999 "; whole != alike(got, plays(t, s, line)) || whole == alike(got, s) {
				t.Errorf("%s%s: %s", cut, line, impl.GateBoard(got))
			}
		}
	}
	failed := plays(t, s, "step acme - prod 0 1 ")
	if r := run(&failed.House, 1); r.Stands != impl.RunFailed || r.At != 0 || len(failed.Cloud) > 0 || len(prod(&failed.House).State) > 0 || failed.Tape.Safe[len(failed.Tape.Safe)-1] != piece("step acme - prod 0 1 ") {
		t.Errorf("%+v", r)
	}
	both := plays(t, plays(t, s, "cut 1 0 step acme - prod 0 1 ", "open"), step)
	if !alike(both, plays(t, s, step)) {
		t.Error("a step that was lost without a call is in the way of the next one")
	}
}

// P61: of a space whose run asks nothing, and of other requests, nothing comes to the world, and the number stays.
func TestGateAsksNothing(t *testing.T) {
	quiet := map[string]impl.Gate{"new": impl.GateNew(someKey), "waiting": waiting(t), "goes": plays(t, waiting(t), "approve acme cy prod 1 0 D", step)}
	for name, s := range quiet {
		for _, num := range []int{0, 1, 999999} {
			for _, cut := range []string{"", "cut 1 0 ", "cut 2 0 ", "cut 3 9999 "} {
				line := fmt.Sprintf("step acme - prod 0 %d ", num)
				got, _ := happened(t, s, event(t, s, cut+line))
				if last := got.Tape.Safe[max(0, len(got.Tape.Safe)-1):]; len(got.Cloud) > 0 || cut != "cut 1 0 " && !slices.Equal(last, pieces(line)) {
					t.Errorf("%s: %s%s: %q", name, cut, line, last)
				}
			}
		}
	}
	for name, s := range map[string]impl.Gate{"asking": asking(t), "lost": lost(t)} {
		for _, line := range append(gateLines(), "step acme - - 0 0 ", "step - - prod 0 0 ", "step acme - prods 0 0 ", "step beta - prod 0 5 ") {
			if strings.HasPrefix(line, "step acme - prod ") {
				continue
			}
			for _, cut := range []string{"", "cut 1 0 ", "cut 2 0 "} {
				got, _ := happened(t, s, event(t, s, cut+line))
				if last := got.Tape.Safe[len(got.Tape.Safe)-1]; !alike(got.Cloud, s.Cloud) || cut != "cut 1 0 " && last != piece(line) {
					t.Errorf("%s: %s%q: %q", name, cut, line, last)
				}
			}
		}
	}
	whoever := plays(t, asking(t), "step acme nobody prod 99 0 any text")
	if len(whoever.Cloud) != 1 || run(&whoever.House, 1).At != 1 {
		t.Error("a step by somebody with a text is none")
	}
	known := plays(t, lost(t), "step acme nobody prod 99 7 any text")
	if known.Tape.Safe[len(known.Tape.Safe)-1] != piece("step acme nobody prod 99 0 any text") || run(&known.House, 1).At != 1 {
		t.Error("the number is not 0 from there on")
	}
}
