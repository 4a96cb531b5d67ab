package tests

import (
	"slices"
	"strings"
	"testing"

	"loop.example/portreeve/impl"
)

// refused is a gate behind an event that is refused with a code, and leaves all as it was.
func refused(t *testing.T, what string, s impl.Gate, e impl.GateEvent, code int) {
	t.Helper()
	before := spread(s)
	got, c := impl.GateDo(s, e)
	if c != code || !alike(got, s) || spread(s) != before {
		t.Errorf("%s: %s: %d, not %d", what, eventLine(e), c, code)
	}
	want, wantCode := modelGateDo(s, e)
	if c != wantCode || !alike(got, want) {
		t.Errorf("%s: %s: %d, by the model %d", what, eventLine(e), c, wantCode)
	}
}

// someCuts is ways in which an event can be no event.
var someCuts = []int{-1 << 63, -5, -1, 5, 6, 14, 1<<63 - 1}

// noRequests is requests that are none.
func noRequests() []impl.Req {
	good := impl.Req{Kind: impl.ReqStep, Tenant: "acme", Space: "prod"}
	all := []impl.Req{{}, good, good, good, good, good, good, good, good, good, good, good}
	all[1].Kind = 11
	all[2].Kind = -1
	all[3].Tenant = "Acme"
	all[4].User = "-"
	all[5].Space = "prodprod"
	all[6].Run = -1
	all[7].Run = 10000
	all[8].Num = -1
	all[9].Num = 1000000
	all[10].Text = "\t"
	all[11].Text = strings.Repeat("x", 1201)
	return all
}

// Each code by hand, where two could come, and that all is as it was: 2, 12 and 13.
func TestGateCodes(t *testing.T) {
	for name, s := range map[string]impl.Gate{"new": impl.GateNew(someKey), "asking": asking(t), "lost": lost(t), "full": filled(t, asking(t), 220)} {
		for _, r := range noRequests() {
			for cut := range 4 {
				refused(t, name, s, impl.GateEvent{Req: r, Cut: cut}, 2)
			}
			for _, cut := range someCuts {
				refused(t, name, s, impl.GateEvent{Req: r, Cut: cut}, 2)
			}
		}
		for _, line := range gateLines() {
			r, _ := modelReqRead(line)
			for _, cut := range someCuts {
				refused(t, name, s, impl.GateEvent{Req: r, Cut: cut, Keep: 1}, 2)
			}
		}
	}
}

// 13: of all room, with each request, each cut, and calls that would be done.
func TestGateFull(t *testing.T) {
	for name, base := range map[string]impl.Gate{"new": impl.GateNew(someKey), "asking": asking(t), "lost": lost(t)} {
		full, almost := filled(t, base, 220), filled(t, base, 219)
		for _, line := range gateLines() {
			r, _ := modelReqRead(line)
			for cut := range 4 {
				for _, keep := range []int{-1, 0, 9, 1 << 40} {
					refused(t, name, full, impl.GateEvent{Req: r, Cut: cut, Keep: keep}, 13)
				}
				got, code := happened(t, almost, impl.GateEvent{Req: r, Cut: cut})
				if cut > 0 && code != 14 || cut == 0 && len(got.Tape.Safe) != 220 {
					t.Errorf("%s: %q: %d", name, line, code)
				}
			}
		}
		refused(t, name, full, impl.GateEvent{Cut: 4}, 0)
		torn, _ := happened(t, almost, event(t, almost, "cut 3 9 "+tick))
		if len(torn.Tape.Safe) != 220 {
			t.Error("nothing torn")
		}
		back := plays(t, torn, "open", "3: step acme bob none 0 0 ")
		if len(back.Tape.Safe) != 220 {
			t.Error("what was torn takes room")
		}
	}
	most := impl.Req{Kind: impl.ReqApprove, Tenant: "acmeacm", User: "annanna", Space: "prodpro", Run: 9999, Num: 999999, Text: strings.Repeat("x", 1200)}
	s, code := happened(t, impl.GateNew(someKey), impl.GateEvent{Req: most})
	if code != 3 || !slices.Equal(s.Tape.Safe, pieces(reqText(most))) {
		t.Errorf("the longest request there is: %d", code)
	}
}

// P81: what is down does nothing till it is opened, whatever happens.
func TestGateDown(t *testing.T) {
	for name, s := range gates(t) {
		if s.Up {
			for _, cut := range []string{"cut 1 0 ", "cut 2 0 ", "cut 3 20 "} {
				if len(s.Tape.Safe) < 220 {
					checkDown(t, name+": "+cut, plays(t, s, cut+tick), true)
				}
			}
			continue
		}
		checkDown(t, name, s, !strings.Contains(name, "what is no request"))
	}
}

// checkDown asks that a gate that is down has the code 12 for all but opening.
func checkDown(t *testing.T, what string, s impl.Gate, opens bool) {
	t.Helper()
	for _, cut := range append([]int{0, 1, 2, 3}, someCuts...) {
		for _, line := range gateLines() {
			r, _ := modelReqRead(line)
			refused(t, what, s, impl.GateEvent{Req: r, Cut: cut, Keep: 3}, 12)
		}
		for _, r := range noRequests() {
			refused(t, what, s, impl.GateEvent{Req: r, Cut: cut}, 12)
		}
	}
	for _, e := range []impl.GateEvent{{Cut: 4}, {Cut: 4, Keep: -1 << 63, Req: impl.Req{Kind: 99, Text: "\x00"}}, {Cut: 4, Req: impl.Req{Kind: impl.ReqTick}}} {
		got, code := impl.GateDo(s, e)
		want, wantCode := modelGateDo(s, e)
		if code != wantCode || !alike(got, want) || (code == 0) != opens || opens != got.Up {
			t.Errorf("%s: opening: %d", what, code)
		}
	}
}

// 15: of what has a whole piece whose record is no request, ahead of one that is torn; opening leaves it as it was.
func TestGateNoRequest(t *testing.T) {
	city := dark(t)
	for i, x := range []struct {
		safe []string
		code int
	}{
		{pieces("what"), 15}, {pieces(""), 15}, {pieces("tick - - - 0 0"), 15}, {pieces(tick, tick, "tick - - - 00 0 "), 15}, {pieces("open", tick), 15}, {pieces("cut 1 0 " + tick), 15}, {pieces(piece(tick)), 15}, {pieces(tick, strings.Repeat("x", 2000)), 15}, {pieces(tick + "\x00"), 15},
		{append(pieces(tick, "what"), "r 1"), 15}, {append([]string{"r 1"}, pieces("what")...), 0}, {append(append(pieces(tick), "r"), pieces("what", tick)...), 0}, {[]string{piece("what")[:9]}, 0}, {[]string{"what"}, 0}, {pieces(strings.Repeat("x", 2001)), 0}, {pieces(tick, "tick - - - 0 0 any"), 0}, {nil, 0},
		{slices.Concat(city.Tape.Safe[:40], pieces("what")), 15}, {city.Tape.Safe, 0}, {slices.Concat(city.Tape.Safe, pieces("what")), 0},
	} {
		s := altered(city, func(s *impl.Gate) { s.Tape.Safe = x.safe })
		e := impl.GateEvent{Cut: 4}
		if x.code == 15 {
			refused(t, "no request", s, e, 15)
			refused(t, "no request", s, impl.GateEvent{Req: impl.Req{Kind: impl.ReqTick}}, 12)
			if impl.GateBoard(s) != "down\n" || !impl.GateOk(s) {
				t.Errorf("case %d: %q", i, impl.GateBoard(s))
			}
		}
		got, code := impl.GateDo(s, e)
		want, wantCode := modelGateDo(s, e)
		if code != x.code || code != wantCode || !alike(got, want) || len(got.Cloud) != len(city.Cloud) {
			t.Errorf("case %d: %d, not %d", i, code, x.code)
		}
	}
}

// 1 ahead of all others, opening among them; what is not ok is told as nothing.
func TestGateSpoilt(t *testing.T) {
	for what, s := range map[string]impl.Gate{
		"up":                               altered(asking(t), func(s *impl.Gate) { s.House.Now = 1 }),
		"down":                             altered(dark(t), func(s *impl.Gate) { s.House.Now = 1 }),
		"full":                             altered(filled(t, asking(t), 220), func(s *impl.Gate) { s.Tape.Safe = append(s.Tape.Safe, piece(tick)); s.House.Now++ }),
		"down, with what is no request":    altered(dark(t), func(s *impl.Gate) { s.Tape.Safe[3], s.Cloud[0].Kind = piece("what"), 0 }),
		"up, with what is no request":      {House: impl.HouseNew(someKey), Tape: impl.Tape{Safe: pieces("what")}, Up: true},
		"up, with what is torn":            {House: impl.HouseNew(someKey), Tape: impl.Tape{Safe: []string{"r"}}, Up: true},
		"something loose, and all room":    {House: impl.HouseNew(someKey), Tape: impl.Tape{Loose: make([]string, 220)}, Up: true},
		"a house that is not ok, but dark": {House: impl.House{Audit: longAudit(1)}},
	} {
		for cut := -1; cut <= 5; cut++ {
			for _, r := range append(noRequests(), impl.Req{Kind: impl.ReqTick}, impl.Req{Kind: impl.ReqStep, Tenant: "acme", Space: "prod"}) {
				if got, code := impl.GateDo(s, impl.GateEvent{Req: r, Cut: cut}); code != 1 || !alike(got, impl.Gate{}) {
					t.Errorf("%s: cut %d: %d", what, cut, code)
				}
			}
		}
	}
}

// What a house refuses is on the tape as well, and has the house's code.
func TestGateRefuses(t *testing.T) {
	s := city(t)
	codes := map[int]bool{}
	lines := []string{"tenant - ann - 0 0 ", "tenant acme ann - 0 0 ", "space acme ann prod 0 0 ", "conf acme bob none 0 0 ", "user acme ann - 0 0 a b", "cancel acme bob prod 2 0 ", "approve acme cy prod 9 0 ", "approve acme cy prod 3 0 x", "user zzz ann - 0 0 zoe", "policy acme bob prod 0 0 "}
	for _, line := range append(lines, gateLines()...) {
		r, _ := modelReqRead(line)
		got, code := happened(t, s, impl.GateEvent{Req: r})
		h, houseCode := impl.HouseDo(s.House, r)
		if code != houseCode || !alike(got.House, h) || !slices.Equal(got.Tape.Safe, append(slices.Clone(s.Tape.Safe), piece(line))) || !got.Up {
			t.Errorf("%q: %d, not %d", line, code, houseCode)
		}
		codes[code] = true
		s = got
	}
	for _, code := range []int{0, 2, 3, 4, 5, 7, 9} {
		if !codes[code] {
			t.Errorf("the code %d never came", code)
		}
	}
}
