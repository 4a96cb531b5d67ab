package tests

import (
	"fmt"
	"slices"
	"strings"
	"testing"

	"loop.example/portreeve/impl"
)

// spoiltGate is what is done to a gate, and whether it is ok then.
type spoiltGate struct {
	what string
	ok   bool
	do   func(s *impl.Gate)
}

// calls is n calls of no run, ascending.
func calls(n int) []impl.Call {
	var list []impl.Call
	for i := range n {
		list = append(list, impl.Call{Key: fmt.Sprintf("key %03d", i), Kind: 1 + i%4, Id: "vm.a", Cap: grant()})
	}
	return list
}

// spoiltClouds is what can be done to any gate's Cloud.
func spoiltClouds() []spoiltGate {
	all := []spoiltGate{
		{"nothing", true, func(s *impl.Gate) {}},
		{"no calls", true, func(s *impl.Gate) { s.Cloud = nil }},
		{"calls of all room", true, func(s *impl.Gate) { s.Cloud = calls(220) }},
		{"calls too many", false, func(s *impl.Gate) { s.Cloud = calls(221) }},
		{"calls out of order", false, func(s *impl.Gate) { s.Cloud[0], s.Cloud[1] = s.Cloud[1], s.Cloud[0] }},
		{"the last calls out of order", false, func(s *impl.Gate) { slices.Reverse(s.Cloud[len(s.Cloud)-2:]) }},
		{"a call twice", false, func(s *impl.Gate) { s.Cloud = append(s.Cloud, s.Cloud[len(s.Cloud)-1]) }},
		{"a key twice", false, func(s *impl.Gate) { s.Cloud[1].Key = s.Cloud[0].Key }},
		{"no key", false, func(s *impl.Gate) { s.Cloud[0].Key = "" }},
		{"no key, but one call", false, func(s *impl.Gate) { s.Cloud = s.Cloud[:1]; s.Cloud[0].Key = "" }},
		{"any key", true, func(s *impl.Gate) { s.Cloud[0].Key = "\x00" }},
		{"any text", true, func(s *impl.Gate) { s.Cloud[0].Text = "any\xff\n\n" }},
		{"no text", true, func(s *impl.Gate) { s.Cloud[0].Text = "" }},
		{"a call that is nothing", false, func(s *impl.Gate) { s.Cloud = make([]impl.Call, 1) }},
		{"no credential", false, func(s *impl.Gate) { s.Cloud[1].Cap = impl.Cap{} }},
		{"another credential that is ok", true, func(s *impl.Gate) { s.Cloud[1].Cap = grant("until 7") }},
		{"a credential without a right seal", true, func(s *impl.Gate) { s.Cloud[1].Cap.Seal = wantSum("x") }},
		{"a seal in capitals", false, func(s *impl.Gate) { s.Cloud[1].Cap.Seal = strings.ToUpper(s.Cloud[1].Cap.Seal) }},
		{"a credential of run 0", false, func(s *impl.Gate) { s.Cloud[1].Cap.Run = 0 }},
		{"a credential of no tenant", false, func(s *impl.Gate) { s.Cloud[1].Cap.Tenant = "" }},
		{"a limit that is none", false, func(s *impl.Gate) { s.Cloud[1].Cap.Limits = []string{"x"} }},
		{"limits too many", false, func(s *impl.Gate) { s.Cloud[1].Cap.Limits = slices.Repeat([]string{"until 7"}, 5) }},
		{"something loose", false, func(s *impl.Gate) { s.Tape.Loose = pieces(tick) }},
		{"something empty loose", false, func(s *impl.Gate) { s.Tape.Loose = []string{""} }},
		{"an empty list loose", true, func(s *impl.Gate) { s.Tape.Loose = []string{} }},
	}
	for _, n := range []int{-1 << 63, -1, 0, 1, 4, 5, 1<<63 - 1} {
		all = append(all, spoiltGate{fmt.Sprint("kind ", n), n == 1 || n == 4, func(s *impl.Gate) { s.Cloud[1].Kind = n }})
	}
	for _, id := range []string{"", "vm", "vm.", ".a", "vm.a.b", "Vm.a", "vm.aaaaaaaa", "vm a", "vm.a ", "vm.1"} {
		all = append(all, spoiltGate{fmt.Sprintf("the id %q", id), false, func(s *impl.Gate) { s.Cloud[1].Id = id }})
	}
	return append(all, spoiltGate{"another id", true, func(s *impl.Gate) { s.Cloud[1].Id = "x.aaaaaaa" }})
}

// spoiltUp is what can be done to a gate that is up, beside that; none of it leaves a house that is not ok, or that nobody could have.
func spoiltUp() []spoiltGate {
	return []spoiltGate{
		{"a piece torn at its end", false, func(s *impl.Gate) { p := &s.Tape.Safe[len(s.Tape.Safe)-1]; *p = (*p)[:len(*p)-1] }},
		{"a piece torn at its beginning", false, func(s *impl.Gate) { p := &s.Tape.Safe[len(s.Tape.Safe)-1]; *p = (*p)[1:] }},
		{"the middle one torn", false, func(s *impl.Gate) { p := &s.Tape.Safe[len(s.Tape.Safe)/2]; *p = (*p)[:len(*p)-1] }},
		{"the first one torn", false, func(s *impl.Gate) { p := &s.Tape.Safe[0]; *p = (*p)[:4] }},
		{"an empty piece more", false, func(s *impl.Gate) { s.Tape.Safe = append(s.Tape.Safe, "") }},
		{"a torn piece more", false, func(s *impl.Gate) { s.Tape.Safe = append(s.Tape.Safe, piece(tick)[:9]) }},
		{"a torn piece ahead", false, func(s *impl.Gate) { s.Tape.Safe = slices.Insert(s.Tape.Safe, 0, "r 1") }},
		{"a torn piece between", false, func(s *impl.Gate) { s.Tape.Safe = slices.Insert(s.Tape.Safe, 5, "r 1") }},
		{"a record that is no request", false, func(s *impl.Gate) { s.Tape.Safe = append(s.Tape.Safe, piece("what")) }},
		{"a record that is no request ahead", false, func(s *impl.Gate) { s.Tape.Safe = slices.Insert(s.Tape.Safe, 0, piece("")) }},
		{"a record that is no request instead of one", false, func(s *impl.Gate) { s.Tape.Safe[3] = piece("what") }},
		{"a record more", false, func(s *impl.Gate) { s.Tape.Safe = append(s.Tape.Safe, piece(tick)) }},
		{"a record more that has a code and is not told", true, func(s *impl.Gate) { s.Tape.Safe = append(s.Tape.Safe, piece("tenant acme ann - 0 0 ")) }},
		{"a record less", false, func(s *impl.Gate) { s.Tape.Safe = s.Tape.Safe[:len(s.Tape.Safe)-1] }},
		{"no records", false, func(s *impl.Gate) { s.Tape.Safe = nil }},
		{"another record", false, func(s *impl.Gate) { s.Tape.Safe[2] = piece("user acme ann - 0 0 cy approve plan") }},
		{"the same tick by somebody", true, func(s *impl.Gate) {
			s.Tape.Safe[slices.Index(s.Tape.Safe, piece(tick))] = piece("tick acme ann - 0 0 ")
		}},
		{"records turned", false, func(s *impl.Gate) { slices.Reverse(s.Tape.Safe) }},
		{"down, all else as it was", false, func(s *impl.Gate) { s.Up = false }},
		{"now", false, func(s *impl.Gate) { s.House.Now++ }},
		{"no now", false, func(s *impl.Gate) { s.House.Now = 0 }},
		{"another key", false, func(s *impl.Gate) { s.House.Key += "x" }},
		{"no house", false, func(s *impl.Gate) { s.House = impl.HouseNew(s.House.Key) }},
		{"nobody", false, func(s *impl.Gate) { s.House.Tenants = nil }},
		{"a tenant less", false, func(s *impl.Gate) { s.House.Tenants = s.House.Tenants[:1] }},
		{"a tenant more", false, func(s *impl.Gate) { s.House.Tenants = append(s.House.Tenants, impl.Tenant{Name: "gamma"}) }},
		{"a tenant's name", false, func(s *impl.Gate) { s.House.Tenants[0].Name = "acm" }},
		{"a user's name", false, func(s *impl.Gate) { s.House.Tenants[0].Users[0].Name = "anna" }},
		{"a user's roles", false, func(s *impl.Gate) { s.House.Tenants[0].Users[0].Roles = nil }},
		{"a user less", false, func(s *impl.Gate) { s.House.Tenants[1].Users = s.House.Tenants[1].Users[1:] }},
		{"a user more", false, func(s *impl.Gate) {
			s.House.Tenants[1].Users = append(s.House.Tenants[1].Users, impl.User{Name: "zoe"})
		}},
		{"a space less", false, func(s *impl.Gate) { s.House.Tenants[0].Spaces = s.House.Tenants[0].Spaces[1:] }},
		{"a space's name", false, func(s *impl.Gate) { s.House.Tenants[0].Spaces[0].Name = "a" }},
		{"a conf", false, func(s *impl.Gate) { prod(&s.House).Conf = "" }},
		{"a policy", false, func(s *impl.Gate) { prod(&s.House).Policy = "deny vm.a\n" }},
		{"a need", false, func(s *impl.Gate) { prod(&s.House).Need = 0 }},
		{"a quota", false, func(s *impl.Gate) { prod(&s.House).Quota-- }},
		{"a version", false, func(s *impl.Gate) { prod(&s.House).Version++ }},
		{"a thing less", false, func(s *impl.Gate) { prod(&s.House).State = prod(&s.House).State[1:] }},
		{"no things", false, func(s *impl.Gate) { prod(&s.House).State = nil }},
		{"a thing's id", false, func(s *impl.Gate) { prod(&s.House).State[0].Id = "net.a" }},
		{"a thing's zone", false, func(s *impl.Gate) { prod(&s.House).State[0].Attrs.Kids[1].Text = "eu" }},
		{"a thing's number", false, func(s *impl.Gate) { prod(&s.House).State[1].Attrs.Kids[2].Num++ }},
		{"a thing's sort of number", false, func(s *impl.Gate) { prod(&s.House).State[1].Attrs.Kids[2].Sort = impl.ValUnknown }},
		{"something in a thing's number", false, func(s *impl.Gate) { prod(&s.House).State[1].Attrs.Kids[2].Names = []string{"a"} }},
		{"a thing's name", false, func(s *impl.Gate) { prod(&s.House).State[1].Attrs.Names[2] = "sizes" }},
		{"a thing's attribute less", false, func(s *impl.Gate) {
			a := &prod(&s.House).State[1].Attrs
			a.Names, a.Kids = a.Names[:2], a.Kids[:2]
		}},
		{"a thing's needs", false, func(s *impl.Gate) { prod(&s.House).State[1].Needs = nil }},
		{"the audit's last left out", false, func(s *impl.Gate) { s.House.Audit = s.House.Audit[:len(s.House.Audit)-1] }},
		{"an entry more", false, func(s *impl.Gate) { s.House.Audit = audit(append(saidOf(s.House.Audit), said{"acme", "plan", ""})...) }},
		{"another entry", false, func(s *impl.Gate) {
			told := saidOf(s.House.Audit)
			told[3].detail += "x"
			s.House.Audit = audit(told...)
		}},
		{"an entry's sum", false, func(s *impl.Gate) { s.House.Audit[3].Sum = wantSum("") }},
		{"no audit", false, func(s *impl.Gate) { s.House.Audit = nil }},
	}
}

// spoiltUpRuns is what can be done to a run of city's acme.
func spoiltUpRuns() []spoiltGate {
	var all []spoiltGate
	add := func(what string, id int, do func(r *impl.Run)) {
		all = append(all, spoiltGate{fmt.Sprintf("run %d: %s", id, what), false, func(s *impl.Gate) { do(run(&s.House, id)) }})
	}
	for id := 1; id <= 3; id++ {
		add("its id", id, func(r *impl.Run) { r.Id++ })
		add("by whom", id, func(r *impl.Run) { r.By = "ann" })
		add("its conf", id, func(r *impl.Run) { r.Conf = "" })
		add("an act's kind", id, func(r *impl.Run) { r.Acts[1].Kind, r.Digest = 3, wantSum(planText(r.Acts)) })
		add("an act's kind alone", id, func(r *impl.Run) { r.Acts[1].Kind = 3 })
		add("an act's id", id, func(r *impl.Run) { r.Acts[1].Id = "vm.z" })
		add("an act's attributes", id, func(r *impl.Run) { r.Acts[1].Attrs = object("") })
		add("an act's needs", id, func(r *impl.Run) { r.Acts[1].Needs = []string{"x.x"} })
		add("an act less", id, func(r *impl.Run) { r.Acts = r.Acts[:2] })
		add("its digest", id, func(r *impl.Run) { r.Digest = wantSum("") })
		add("its version", id, func(r *impl.Run) { r.Version++ })
		add("an approval more", id, func(r *impl.Run) { r.Approvals = append(r.Approvals, "eve") })
		add("other approvals", id, func(r *impl.Run) { r.Approvals = []string{"eve"} })
		add("how it stands", id, func(r *impl.Run) { r.Stands = impl.RunCancelled })
		add("at", id, func(r *impl.Run) { r.At ^= 1 })
		add("its intent", id, func(r *impl.Run) { r.Intent = modelPath("acme", "prod", id, 1) })
		for what, change := range capChanges() {
			add("its credential: "+what, id, func(r *impl.Run) { change(&r.Cap) })
		}
		add("a credential sealed anew", id, func(r *impl.Run) {
			r.Cap = impl.Cap{Tenant: "acme", Space: "prod", Run: id, From: r.Cap.From, Until: 999999}
			r.Cap.Seal = modelSeal(someKey, r.Cap)
		})
	}
	add("no approvals", 2, func(r *impl.Run) { r.Approvals = nil })
	add("no intent", 2, func(r *impl.Run) { r.Intent = "" })
	return all
}

// spoiltDown is what can be done to a gate that is down.
func spoiltDown() []spoiltGate {
	return []spoiltGate{
		{"a tenant", false, func(s *impl.Gate) { s.House.Tenants = []impl.Tenant{{Name: "acme"}} }},
		{"an entry", false, func(s *impl.Gate) { s.House.Audit = longAudit(1) }},
		{"an entry that is none", false, func(s *impl.Gate) { s.House.Audit = make([]impl.AuditEntry, 1) }},
		{"now 1", false, func(s *impl.Gate) { s.House.Now = 1 }},
		{"now -1", false, func(s *impl.Gate) { s.House.Now = -1 }},
		{"its house as its tape says", false, func(s *impl.Gate) { s.House, _ = modelTapeSays(s.House.Key, s.Tape) }},
		{"up", false, func(s *impl.Gate) { s.Up = true }},
		{"another key", true, func(s *impl.Gate) { s.House.Key = "\x00" }},
		{"empty lists", true, func(s *impl.Gate) { s.House.Tenants, s.House.Audit = []impl.Tenant{}, []impl.AuditEntry{} }},
		{"torn pieces alone", true, func(s *impl.Gate) { s.Tape.Safe = []string{"", "x"} }},
		{"what is no request", true, func(s *impl.Gate) { s.Tape.Safe = pieces("what") }},
		{"no tape", true, func(s *impl.Gate) { s.Tape.Safe = nil }},
		{"pieces of all room", true, func(s *impl.Gate) { s.Tape.Safe = make([]string, 220) }},
		{"pieces too many", false, func(s *impl.Gate) { s.Tape.Safe = make([]string, 221) }},
		{"records of all room", true, func(s *impl.Gate) { s.Tape.Safe = slices.Repeat(pieces(tick), 220) }},
		{"records too many", false, func(s *impl.Gate) { s.Tape.Safe = slices.Repeat(pieces(tick), 221) }},
	}
}

// checkGate asks what all functions say of a gate, ok or not; events are lines of a session, and some that no line says.
func checkGate(t *testing.T, what string, s impl.Gate, ok bool) {
	t.Helper()
	before := spread(s)
	if impl.GateOk(s) != ok || modelGateOk(s) != ok {
		t.Errorf("%s: %v, by the model %v", what, impl.GateOk(s), modelGateOk(s))
		return
	}
	if safe := impl.GateSafe(s); safe != modelGateSafe(s) || safe && !ok {
		t.Errorf("%s: safe %v", what, safe)
	}
	if board := impl.GateBoard(s); board != modelBoard(s) || (board != "") != ok {
		t.Errorf("%s:\n%s", what, board)
	}
	events := []impl.GateEvent{{Cut: 4}, {}, {Req: impl.Req{Kind: impl.ReqTick}}, {Req: impl.Req{Kind: impl.ReqStep, Tenant: "acme", Space: "prod"}, Cut: 1}, {Cut: 5}}
	for _, e := range events {
		got, code := impl.GateDo(s, e)
		want, wantCode := impl.Gate{}, 1
		if ok {
			want, wantCode = modelEvent(s, e)
		}
		if code != wantCode || !alike(got, want) {
			t.Errorf("%s: %s: %d, not %d", what, eventLine(e), code, wantCode)
		}
	}
	for _, list := range [][]impl.GateEvent{nil, events} {
		got, codes := impl.GatePlay(s, list)
		if !ok && (!alike(got, impl.Gate{}) || len(codes) > 0) || ok && len(codes) != len(list) {
			t.Errorf("%s: GatePlay of %d: %v", what, len(list), codes)
		}
	}
	if spread(s) != before {
		t.Errorf("%s: the argument is changed", what)
	}
}

// P55: a gate that is spoiled in one place, and what all functions say of it.
func TestGateOk(t *testing.T) {
	up, down := city(t), dark(t)
	for _, x := range slices.Concat(spoiltClouds(), spoiltUp(), spoiltUpRuns()) {
		checkGate(t, "up: "+x.what, altered(up, x.do), x.ok)
	}
	for _, x := range slices.Concat(spoiltClouds(), spoiltDown()) {
		checkGate(t, "down: "+x.what, altered(down, x.do), x.ok)
	}
	for name, s := range gates(t) {
		checkGate(t, name, s, true)
	}
}

// P55: houses that are not ok make no gate.
func TestGateOfHouses(t *testing.T) {
	base := town(t)
	for _, x := range slices.Concat(spoiltHouses(), spoiltSpaces()) {
		h := twin(base)
		x.do(&h)
		for _, up := range []bool{false, true} {
			if s := (impl.Gate{House: h, Up: up}); impl.GateOk(s) || impl.GateSafe(s) || impl.GateBoard(s) != "" {
				t.Errorf("%s, up %v", x.what, up)
			}
		}
	}
}

// P55: tapes of all room, and of one record more.
func TestGateRoom(t *testing.T) {
	for n, ok := range map[int]bool{219: true, 220: true, 221: false, 5000: false} {
		s := impl.Gate{House: impl.House{Now: n}, Tape: impl.Tape{Safe: slices.Repeat(pieces(tick), n)}, Up: true}
		if impl.GateOk(s) != ok || impl.GateSafe(s) != ok || (impl.GateBoard(s) == fmt.Sprintf("now %d, 0 entries, %d records\n", n, n)) != ok {
			t.Errorf("%d records", n)
		}
	}
}

// GateOk and all others come back, whatever there is much of.
func TestGateGreat(t *testing.T) {
	endless := impl.Value{Sort: impl.ValObject, Names: []string{"id"}, Kids: make([]impl.Value, 1)}
	endless.Kids[0] = endless
	long, many, base := strings.Repeat("r", 1<<20), 1<<16, city(t)
	for what, do := range map[string]func(s *impl.Gate){
		"pieces":           func(s *impl.Gate) { s.Tape.Safe = make([]string, many) },
		"loose ones":       func(s *impl.Gate) { s.Tape.Loose = make([]string, many) },
		"a piece":          func(s *impl.Gate) { s.Tape.Safe[1] = long },
		"calls":            func(s *impl.Gate) { s.Cloud = calls(many) },
		"limits":           func(s *impl.Gate) { s.Cloud[0].Cap.Limits = make([]string, many) },
		"a limit":          func(s *impl.Gate) { s.Cloud[0].Cap.Limits = []string{long} },
		"a seal":           func(s *impl.Gate) { s.Cloud[0].Cap.Seal = long },
		"tenants":          func(s *impl.Gate) { s.House.Tenants = make([]impl.Tenant, many) },
		"users":            func(s *impl.Gate) { s.House.Tenants[0].Users = make([]impl.User, many) },
		"spaces":           func(s *impl.Gate) { s.House.Tenants[0].Spaces = make([]impl.Space, many) },
		"runs":             func(s *impl.Gate) { prod(&s.House).Runs = make([]impl.Run, many) },
		"things":           func(s *impl.Gate) { prod(&s.House).State = make([]impl.Thing, many) },
		"a value":          func(s *impl.Gate) { prod(&s.House).State[0].Attrs = endless },
		"a value of acts":  func(s *impl.Gate) { run(&s.House, 1).Acts[0].Attrs = endless },
		"values":           func(s *impl.Gate) { prod(&s.House).State[0].Attrs.Kids = make([]impl.Value, many) },
		"names":            func(s *impl.Gate) { prod(&s.House).State[0].Attrs.Names = make([]string, many) },
		"needs":            func(s *impl.Gate) { prod(&s.House).State[0].Needs = make([]string, many) },
		"acts":             func(s *impl.Gate) { run(&s.House, 1).Acts = make([]impl.Act, many) },
		"approvals":        func(s *impl.Gate) { run(&s.House, 1).Approvals = make([]string, many) },
		"entries":          func(s *impl.Gate) { s.House.Audit = make([]impl.AuditEntry, many) },
		"ticks":            func(s *impl.Gate) { s.House.Now = 1<<63 - 1 },
		"ticks below 0":    func(s *impl.Gate) { s.House.Now = -1 << 63 },
		"a configuration":  func(s *impl.Gate) { prod(&s.House).Conf = long },
		"a piece's length": func(s *impl.Gate) { s.Tape.Safe[1] = "r 99999999999999999999 00000000\n" },
	} {
		s := altered(base, do)
		got, code := impl.GateDo(s, impl.GateEvent{Cut: 4})
		play, codes := impl.GatePlay(s, make([]impl.GateEvent, 3))
		if code != 1 || !alike(got, impl.Gate{}) || !alike(play, impl.Gate{}) || len(codes) > 0 || impl.GateOk(s) || impl.GateSafe(s) || impl.GateBoard(s) != "" {
			t.Errorf("%s: %d", what, code)
		}
	}
	wide := altered(dark(t), func(s *impl.Gate) {
		s.House.Key, s.Tape.Safe[1], s.Cloud[0].Text, s.Cloud[0].Key = long, long, long, "a/"+long
	})
	if got, code := impl.GateDo(wide, impl.GateEvent{Cut: 4}); code != 0 || len(got.Tape.Safe) != 1 || len(got.House.Tenants) != 1 || impl.GateSafe(wide) || !impl.GateSafe(altered(wide, func(s *impl.Gate) { s.Cloud = nil })) {
		t.Errorf("a wide gate: %d", code)
	}
}
