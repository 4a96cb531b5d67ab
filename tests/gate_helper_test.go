package tests

import (
	"fmt"
	"slices"
	"strconv"
	"strings"
	"testing"

	"loop.example/portreeve/impl"
)

// Words on the gate, said once more; the house, which has a model of its own, is asked as it is.

// modelKnown is what tapes said that were asked of before, as many tests ask the same again.
var modelKnown = map[string]tapeTale{}

type tapeTale struct {
	h   impl.House
	all bool
}

// modelTapeSays is the house that a tape says, and whether all of its records are requests.
func modelTapeSays(key string, tape impl.Tape) (impl.House, bool) {
	said := tapeTale{impl.HouseNew(key), true}
	name := fmt.Sprintf("%q", key)
	for _, record := range modelOpen(tape) {
		name += fmt.Sprintf("%q", record)
		known, there := modelKnown[name]
		if !there {
			r, ok := modelReqRead(record)
			known.h, _ = impl.HouseDo(said.h, r)
			known.all = said.all && ok
			modelKnown[name] = known
		}
		said = known
	}
	return twin(said.h), said.all
}

func modelCloud(list []impl.Call) bool {
	for i, c := range list {
		if c.Key == "" || i > 0 && list[i-1].Key >= c.Key || !modelCap(c.Cap) || c.Kind < 1 || c.Kind > 4 || !idForm.MatchString(c.Id) {
			return false
		}
	}
	return len(list) <= 220
}

func modelGateOk(s impl.Gate) bool {
	if len(s.Tape.Safe) > 220 || len(s.Tape.Loose) > 0 || !modelCloud(s.Cloud) {
		return false
	}
	if !s.Up {
		return alike(s.House, impl.House{Key: s.House.Key})
	}
	h, all := modelTapeSays(s.House.Key, s.Tape)
	return all && len(modelOpen(s.Tape)) == len(s.Tape.Safe) && alike(h, s.House)
}

// modelEvent is a gate behind an event, if it is ok.
func modelEvent(given impl.Gate, e impl.GateEvent) (impl.Gate, int) {
	s := twin(given)
	if e.Cut == 4 {
		h, all := modelTapeSays(s.House.Key, s.Tape)
		if !all {
			return s, 15
		}
		s.House, s.Tape.Safe, s.Up = h, s.Tape.Safe[:len(modelOpen(s.Tape))], true
		return s, 0
	}
	switch {
	case !s.Up:
		return s, 12
	case !modelReq(e.Req) || e.Cut < 0 || e.Cut > 4:
		return s, 2
	case len(s.Tape.Safe) == 220:
		return s, 13
	}
	r := e.Req
	if call, asks := modelCall(s.House, r.Tenant, r.Space); asks && r.Kind == impl.ReqStep {
		there := slices.ContainsFunc(s.Cloud, func(c impl.Call) bool { return c.Key == call.Key })
		if !there && r.Num == 0 {
			s.Cloud = append(s.Cloud, call)
			slices.SortFunc(s.Cloud, func(a, b impl.Call) int { return strings.Compare(a.Key, b.Key) })
		}
		if there {
			r.Num = 0
		}
	}
	record := piece(reqText(r))
	if e.Cut == 0 {
		code := 0
		s.House, code = impl.HouseDo(s.House, r)
		s.Tape.Safe = append(s.Tape.Safe, record)
		return s, code
	}
	left := ""
	switch {
	case e.Cut == 2 || e.Cut == 3 && e.Keep > len(record):
		left = record
	case e.Cut == 3 && e.Keep > 0:
		left = record[:e.Keep]
	}
	if left != "" {
		s.Tape.Safe = append(s.Tape.Safe, left)
	}
	s.House, s.Up = impl.House{Key: s.House.Key}, false
	return s, 14
}

// modelGateDo is a gate behind an event, and its code.
func modelGateDo(s impl.Gate, e impl.GateEvent) (impl.Gate, int) {
	if !modelGateOk(s) {
		return impl.Gate{}, 1
	}
	return modelEvent(s, e)
}

// modelCallSafe says whether a call is of an act of a run to which that has come.
func modelCallSafe(h impl.House, c impl.Call) bool {
	for _, t := range h.Tenants {
		for _, s := range t.Spaces {
			for _, r := range s.Runs {
				for place, a := range r.Acts {
					if c.Key != modelPath(t.Name, s.Name, r.Id, place) {
						continue
					}
					acts, _ := impl.PlanRead(c.Text)
					return place <= r.At && c.Kind == a.Kind && c.Id == a.Id && len(acts) == 1 && acts[0].Kind == a.Kind && acts[0].Id == a.Id && slices.Equal(acts[0].Needs, a.Needs) &&
						impl.ValueKnown(acts[0].Attrs) && impl.ValueFits(acts[0].Attrs, a.Attrs) && alike(c.Cap, r.Cap) && len(r.Approvals) >= s.Need
				}
			}
		}
	}
	return false
}

func modelGateSafe(s impl.Gate) bool {
	h := s.House
	if !s.Up {
		h, _ = modelTapeSays(s.House.Key, s.Tape)
	}
	return modelGateOk(s) && modelSafe(h) && !slices.ContainsFunc(s.Cloud, func(c impl.Call) bool { return !modelCallSafe(h, c) })
}

func modelBoard(s impl.Gate) string {
	if !modelGateOk(s) {
		return ""
	}
	if !s.Up {
		return "down\n"
	}
	text := fmt.Sprintf("now %d, %d entries, %d records\n", s.House.Now, len(s.House.Audit), len(s.Tape.Safe))
	for _, t := range s.House.Tenants {
		text += modelView(s.House, t.Name)
	}
	for _, c := range s.Cloud {
		text += "world " + c.Key + " " + strings.TrimSuffix(c.Text, "\n") + "\n"
	}
	return text
}

// happened is a gate behind an event, which the model is asked of, too; all that must hold of any event from GateNew on is asked here.
func happened(t *testing.T, s impl.Gate, e impl.GateEvent) (impl.Gate, int) {
	t.Helper()
	before := spread(s)
	got, code := impl.GateDo(s, e)
	want, wantCode := modelEvent(s, e)
	if code != wantCode || !alike(got, want) {
		t.Fatalf("%s: %d\n%+v\nnot %d\n%+v", eventLine(e), code, got, wantCode, want)
	}
	if spread(s) != before {
		t.Fatalf("%s: the argument is changed", eventLine(e))
	}
	if !impl.GateSafe(got) || !impl.GateOk(got) {
		t.Fatalf("%s: %d, and it is not safe\n%+v", eventLine(e), code, got)
	}
	checkCloud(t, s, got)
	return got, code
}

// checkCloud asks that the world keeps what it has, has one call more at most, and that each is of its tenant and space.
func checkCloud(t *testing.T, before, after impl.Gate) {
	t.Helper()
	if len(after.Cloud) > len(before.Cloud)+1 {
		t.Fatalf("%d calls, and then %d", len(before.Cloud), len(after.Cloud))
	}
	for _, c := range before.Cloud {
		if !slices.ContainsFunc(after.Cloud, func(d impl.Call) bool { return alike(c, d) }) {
			t.Fatalf("the world lost %+v", c)
		}
	}
	for _, c := range after.Cloud {
		if !strings.HasPrefix(c.Key, c.Cap.Tenant+"/"+c.Cap.Space+"/") || !impl.CapMay(after.House.Key, c.Cap, c.Cap.Tenant, c.Cap.Space, c.Cap.Run, c.Id, c.Cap.From) {
			t.Fatalf("whose is %+v", c)
		}
	}
}

// eventLine is an event as a text, whatever it is.
func eventLine(e impl.GateEvent) string {
	return fmt.Sprintf("cut %d %d %.80q", e.Cut, e.Keep, reqLine(e.Req))
}

// event is what a line of a session says; D stands for the digest of the run that is approved.
func event(t *testing.T, s impl.Gate, line string) impl.GateEvent {
	t.Helper()
	var e impl.GateEvent
	if line == "open" {
		return impl.GateEvent{Cut: 4}
	}
	if n, _ := fmt.Sscanf(line, "cut %d %d", &e.Cut, &e.Keep); n == 2 {
		line = strings.SplitN(line, " ", 4)[3]
	}
	r, ok := modelReqRead(line)
	if !ok {
		t.Fatalf("%q is no request", line)
	}
	if at := spaceOf(&s.House, r.Tenant, r.Space); r.Text == "D" && at != nil && r.Run > 0 && r.Run <= len(at.Runs) {
		r.Text = at.Runs[r.Run-1].Digest
	}
	e.Req = r
	return e
}

// plays is a gate behind lines of a session, each with the code that is ahead of it, if one is.
func plays(t *testing.T, s impl.Gate, list ...string) impl.Gate {
	t.Helper()
	for _, line := range list {
		want := 0
		if strings.HasPrefix(line, "cut") {
			want = 14
		}
		if n, rest, ok := strings.Cut(line, ": "); ok {
			if c, err := strconv.Atoi(n); err == nil {
				want, line = c, rest
			}
		}
		got, code := happened(t, s, event(t, s, line))
		if code != want {
			t.Fatalf("%.80q: %d, not %d", line, code, want)
		}
		s = got
	}
	return s
}

// of is lines, each with its tenant.
func of(tenant string, list ...string) []string {
	var all []string
	for _, line := range list {
		all = append(all, strings.ReplaceAll(line, "T", tenant))
	}
	return all
}

// settled is the lines by which a tenant comes to a space prod, and a plan of it.
var settled = []string{"tenant T ann - 0 0 ", "user T ann - 0 0 bob plan write", "user T ann - 0 0 cy approve", "user T ann - 0 0 dee approve plan", "space T ann prod 0 110 ", "conf T bob prod 0 0 " + confMore, "plan T bob prod 0 0 "}

// waiting is a gate with a run of three creations that waits, and has no approvals.
func waiting(t *testing.T) impl.Gate {
	t.Helper()
	return plays(t, impl.GateNew(someKey), of("acme", settled...)...)
}

// asking is a gate whose run asks for its first act.
func asking(t *testing.T) impl.Gate {
	t.Helper()
	return plays(t, waiting(t), "approve acme cy prod 1 0 D", step, step)
}

// lost is a gate whose run asks for what the world has done already.
func lost(t *testing.T) impl.Gate {
	t.Helper()
	return plays(t, asking(t), "cut 1 0 "+step, "open")
}

// city is a gate with two tenants that have a space of one name, each with calls of all kinds in the world; of acme a run asks for its last act, and another one waits.
func city(t *testing.T) impl.Gate {
	t.Helper()
	s := impl.GateNew(someKey)
	for _, tenant := range []string{"acme", "beta"} {
		s = plays(t, s, of(tenant, settled...)...)
		s = plays(t, s, of(tenant, "10: step T - prod 0 0 ", "approve T cy prod 1 0 D")...)
		s = plays(t, s, slices.Repeat(of(tenant, "step T - prod 0 0 "), 7)...)
		s = plays(t, s, of(tenant, "tick - - - 0 0 ", "conf T bob prod 0 0 "+confOther, "plan T bob prod 0 0 ", "9: approve T cy prod 2 0 x", "approve T cy prod 2 0 D", "plan T dee prod 0 0 ")...)
		s = plays(t, s, slices.Repeat(of(tenant, "step T - prod 0 0 "), 6)...)
	}
	return plays(t, s, "step beta - prod 0 0 ", "space acme ann dev 0 3 ", "4: space acme bob test 0 3 ")
}

// dark is a gate that is down, whose tape ends with a piece that is torn.
func dark(t *testing.T) impl.Gate {
	t.Helper()
	return plays(t, city(t), "cut 3 30 conf acme bob prod 0 0 "+confTwo)
}

// filled is a gate with so many records, the last of them ticks.
func filled(t *testing.T, s impl.Gate, n int) impl.Gate {
	t.Helper()
	more := n - len(s.Tape.Safe)
	got, codes := impl.GatePlay(s, slices.Repeat([]impl.GateEvent{{Req: impl.Req{Kind: impl.ReqTick}}}, more))
	if len(got.Tape.Safe) != n || slices.Max(codes) > 0 {
		t.Fatal("no ticks", codes)
	}
	return got
}

// gates is gates of all kinds, all of them ok.
func gates(t *testing.T) map[string]impl.Gate {
	t.Helper()
	return map[string]impl.Gate{
		"new": impl.GateNew(someKey), "waiting": waiting(t), "asking": asking(t), "lost": lost(t), "city": city(t), "dark": dark(t), "full": filled(t, asking(t), 220),
		"nothing": {}, "dark, and all torn": {House: impl.HouseNew("k"), Tape: impl.Tape{Safe: []string{"", "r 1"}}}, "dark, with what is no request": {House: impl.HouseNew("k"), Tape: impl.Tape{Safe: pieces(tick, "what", tick)}},
	}
}

// gateLines is lines of all kinds of requests, most of which a gate of acme lets.
func gateLines() []string {
	return []string{
		tick, "tenant gamma zoe - 0 0 ", "user acme ann - 0 0 zoe plan", "user acme bob - 0 0 zoe plan", "space acme ann test 0 10 ", "conf acme bob prod 0 0 " + confTwo, "conf acme bob prod 0 0 what",
		"policy acme ann prod 0 0 deny X if act delete X\n", plans, "approve acme dee prod 1 0 x", "cancel acme bob prod 1 0 ", step, "step acme - prod 0 7 ", "step beta - prod 0 0 ", "step acme - dev 0 0 ", "step - - - 0 0 ",
	}
}

// altered is a gate of which something is another one, in memory of its own.
func altered(s impl.Gate, do func(s *impl.Gate)) impl.Gate {
	s = twin(s)
	do(&s)
	return s
}
