package tests

import (
	"fmt"
	"reflect"
	"slices"
	"strings"
	"sync"
	"testing"

	"loop.example/portreeve/impl"
)

// memoryEvents is events of all kinds, with codes and without.
func memoryEvents(t *testing.T, s impl.Gate) []impl.GateEvent {
	all := []impl.GateEvent{{Cut: 4}, {}, {Cut: 5}}
	lines := gateLines()
	if len(s.House.Tenants) > 0 {
		lines = append(lines, "approve acme dee prod 1 0 D", "approve acme cy prod 3 0 D")
	}
	for _, line := range lines {
		for _, cut := range []string{"", "cut 1 0 ", "cut 2 0 ", "cut 3 20 ", "cut 3 9999 "} {
			all = append(all, event(t, s, cut+line))
		}
	}
	return all
}

// GateDo: an answer is new memory, and no argument is changed, nor what is behind its lists.
func TestGateMemory(t *testing.T) {
	for name, base := range gates(t) {
		for _, e := range memoryEvents(t, base) {
			s, e := twin(base), twin(e)
			before, given := spread(s), spread(e)
			got, code := impl.GateDo(s, e)
			what := name + ": " + eventLine(e)
			checkApart(t, what, got, s, e)
			want := spread(got)
			again, _ := impl.GateDo(s, e)
			if spread(s) != before || spread(e) != given {
				t.Fatalf("%s (%d) changes the argument", what, code)
			}
			checkApart(t, what, again, got)
			reflectSpoil(reflect.ValueOf(&s).Elem())
			if spread(got) != want {
				t.Fatalf("%s: the answer hangs on the argument", what)
			}
			if !alike(got, again) {
				t.Fatalf("%s: two answers", what)
			}
		}
	}
}

// GateNew, GatePlay, GateOk, GateSafe, GateBoard and GateSession: new memory, too.
func TestGateTellMemory(t *testing.T) {
	key := own(someKey)
	checkApart(t, "GateNew", impl.GateNew(key), key)
	for name, base := range gates(t) {
		s, events := twin(base), twin(memoryEvents(t, base))
		events = events[:len(events):cap(events)]
		before, given := spread(s), spread(events)
		got, codes := impl.GatePlay(s, events)
		checkApart(t, name+": GatePlay", struct {
			S     impl.Gate
			Codes []int
		}{got, codes}, s, events)
		none, _ := impl.GatePlay(s, nil)
		checkApart(t, name+": GatePlay of nothing", none, s)
		board := impl.GateBoard(s)
		checkApart(t, name+": GateBoard", board, s)
		impl.GateOk(s)
		impl.GateSafe(s)
		if spread(s) != before || spread(events) != given {
			t.Errorf("%s is changed", name)
		}
	}
	lines := ownTexts(exampleLines()...)
	before := spread(lines)
	told := impl.GateSession(key, lines)
	if checkApart(t, "GateSession", told, key, lines); spread(lines) != before {
		t.Error("the lines are changed")
	}
}

// Numbers at both ends of int, wherever an event or a gate has one.
func TestGateNumbers(t *testing.T) {
	for name, s := range gates(t) {
		for _, n := range []int{-1 << 63, -1<<63 + 1, -1, 1<<63 - 2, 1<<63 - 1} {
			for cut := range 5 {
				got, code := impl.GateDo(s, impl.GateEvent{Req: impl.Req{Kind: impl.ReqTick}, Cut: cut, Keep: n})
				if want, wantCode := modelGateDo(s, impl.GateEvent{Req: impl.Req{Kind: impl.ReqTick}, Cut: cut, Keep: n}); code != wantCode || !alike(got, want) {
					t.Errorf("%s: cut %d, keep %d: %d", name, cut, n, code)
				}
			}
			for i, r := range []impl.Req{{Kind: n}, {Kind: 10, Tenant: "acme", Space: "prod", Num: n}, {Kind: 10, Tenant: "acme", Space: "prod", Run: n}} {
				got, code := impl.GateDo(s, impl.GateEvent{Req: r})
				if want := map[bool]int{true: 2, false: 12}[s.Up]; code != want || !alike(got, s) {
					t.Errorf("%s: request %d with %d: %d", name, i, n, code)
				}
			}
			if code := playedCode(s, impl.GateEvent{Cut: n}); code != map[bool]int{true: 2, false: 12}[s.Up] {
				t.Errorf("%s: cut %d: %d", name, n, code)
			}
		}
	}
}

func playedCode(s impl.Gate, e impl.GateEvent) int {
	_, codes := impl.GatePlay(s, []impl.GateEvent{e})
	return codes[0]
}

// Gates that are at work at the same time do not meet.
func TestGateTogether(t *testing.T) {
	s := city(t)
	events := memoryEvents(t, s)
	answers, codes, told := make([]impl.Gate, len(events)), make([]int, len(events)), make([]string, len(events))
	var all sync.WaitGroup
	for i, e := range events {
		all.Go(func() {
			answers[i], codes[i] = impl.GateDo(s, e)
			told[i] = fmt.Sprint(impl.GateOk(s), impl.GateSafe(s), impl.GateBoard(s), impl.GateSession(someKey, exampleLines()))
		})
	}
	all.Wait()
	for i, e := range events {
		got, code := impl.GateDo(s, e)
		if code != codes[i] || !alike(got, answers[i]) || told[i] != told[0] || !strings.HasPrefix(told[i], "true truenow") {
			t.Errorf("%s: %d and %d", eventLine(e), code, codes[i])
		}
	}
	if slices.Max(codes) != 14 {
		t.Error("nothing was cut off")
	}
}
