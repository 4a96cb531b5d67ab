package tests

import (
	"fmt"
	"math/rand"
	"slices"
	"testing"

	"loop.example/portreeve/impl"
)

// chance is an event by chance, of a gate whose house was h when it was up.
func chance(r *teller, s impl.Gate, h impl.House, cuts int) impl.GateEvent {
	e := impl.GateEvent{Req: r.next(h, r.pick(r.names...))}
	if r.Intn(2) == 0 {
		e.Req = r.forth(h, r.pick("acme", "acme", "beta"))
	}
	if !s.Up && r.Intn(2) == 0 || r.Intn(60) == 0 {
		return impl.GateEvent{Cut: 4, Req: e.Req}
	}
	if r.Intn(100) < cuts {
		e.Cut, e.Keep = 1+r.Intn(3), r.Intn(70)-5
	}
	switch r.Intn(80) {
	case 0:
		e.Cut = someCuts[r.Intn(len(someCuts))]
	case 1:
		e.Req = noRequests()[r.Intn(12)]
	}
	return e
}

// P55, P59, P80: stories by chance, with cuts of each kind, against the model; and what GatePlay makes of all of it at once.
func TestGateAny(t *testing.T) {
	codes, calls, twice := map[int]int{}, 0, 0
	for i := range 12 {
		r := &teller{Rand: rand.New(rand.NewSource(int64(140 + i))), names: []string{"acme", "acme", "acme", "acme", "beta", "beta", "gamma"}}
		s := impl.GateNew(r.pick("", someKey))
		first, h := s, s.House
		var events []impl.GateEvent
		var told []int
		for _, line := range begun("acme") {
			events = append(events, event(t, s, line))
		}
		for n := range 150 {
			if n >= len(events) {
				events = append(events, chance(r, s, h, []int{0, 10, 30}[i%3]))
			}
			got, code := happened(t, s, events[n])
			if call, asks := modelCall(s.House, events[n].Req.Tenant, events[n].Req.Space); asks && code == 0 && events[n].Req.Kind == impl.ReqStep && slices.ContainsFunc(s.Cloud, func(c impl.Call) bool { return c.Key == call.Key }) {
				twice++
			}
			codes[code]++
			told = append(told, code)
			if s = got; s.Up {
				h = s.House
			}
		}
		calls += len(s.Cloud)
		played(t, first, events, s, told)
	}
	for _, code := range []int{0, 2, 3, 4, 5, 7, 9, 10, 12, 14} {
		if codes[code] == 0 {
			t.Errorf("the code %d never came: %v", code, codes)
		}
	}
	if calls < 60 || twice < 5 {
		t.Error(calls, "calls,", twice, "asked for again", codes)
	}
}

// played asks that GatePlay, of all events, of each beginning and the rest, comes to what is told.
func played(t *testing.T, s impl.Gate, events []impl.GateEvent, want impl.Gate, codes []int) {
	t.Helper()
	before, given := spread(s), spread(events)
	got, told := impl.GatePlay(s, events)
	if !alike(got, want) || !slices.Equal(told, codes) {
		t.Fatalf("played at once\n%s%v\nnot\n%s%v", impl.GateBoard(got), told, impl.GateBoard(want), codes)
	}
	if spread(s) != before || spread(events) != given {
		t.Fatal("an argument is changed")
	}
	for n := 0; n <= len(events); n += max(1, len(events)/5) {
		half, some := impl.GatePlay(s, events[:n])
		got, more := impl.GatePlay(half, events[n:])
		if !alike(got, want) || !slices.Equal(append(some, more...), codes) {
			t.Fatalf("played in two parts, from %d on", n)
		}
	}
}

// P57: without cuts the codes and the house are those of a house without a tape, up to a tape that is full.
func TestGateAsHouse(t *testing.T) {
	for i := range 4 {
		r := &teller{Rand: rand.New(rand.NewSource(int64(160 + i))), names: []string{"acme", "acme", "acme", "beta", "gamma"}}
		s, h := impl.GateNew(someKey), impl.HouseNew(someKey)
		var events []impl.GateEvent
		var want []int
		code := 0
		for _, line := range begun("acme") {
			events = append(events, event(t, s, line))
		}
		for n := range 230 {
			if n >= len(events) {
				events = append(events, impl.GateEvent{Req: r.next(h, r.pick(r.names...)), Keep: n})
			}
			if n >= 220 {
				want = append(want, 13)
				continue
			}
			h, code = impl.HouseDo(h, events[n].Req)
			want = append(want, code)
		}
		got, codes := impl.GatePlay(s, events)
		if !slices.Equal(codes, want) || !alike(got.House, h) || len(got.Tape.Safe) != 220 || !got.Up || !impl.GateSafe(got) {
			t.Fatalf("story %d: %v\nnot %v\n%s", i, codes, want, impl.GateBoard(got))
		}
		records, _ := impl.TapeOpen(got.Tape)
		for n, record := range records {
			if record != reqText(events[n].Req) {
				t.Fatalf("record %d: %q", n, record)
			}
		}
	}
}

// P59: by hand, of events of all codes, and of none.
func TestGatePlay(t *testing.T) {
	for name, s := range gates(t) {
		got, codes := impl.GatePlay(s, nil)
		if !alike(got, s) || len(codes) > 0 {
			t.Errorf("%s: of no events: %v", name, codes)
		}
		events := []impl.GateEvent{{Cut: 4}, {Req: impl.Req{Kind: impl.ReqTick}}, {}, {Cut: 9}, event(t, s, step), event(t, s, "cut 3 9 "+step), event(t, s, tick), {Cut: 4}, event(t, s, step), {Cut: 4}, event(t, s, "cut 2 0 "+tick), {}}
		var want []int
		one, code := s, 0
		for _, e := range events {
			one, code = impl.GateDo(one, e)
			want = append(want, code)
		}
		played(t, s, events, one, want)
	}
	got, codes := impl.GatePlay(city(t), slices.Repeat([]impl.GateEvent{{}}, 5000))
	if !alike(got, city(t)) || !slices.Equal(codes, slices.Repeat([]int{2}, 5000)) {
		t.Error("5000 that are no requests")
	}
	_, codes = impl.GatePlay(impl.GateNew(someKey), slices.Repeat([]impl.GateEvent{{Req: impl.Req{Kind: impl.ReqTick}}}, 5000))
	if !slices.Equal(codes, append(make([]int, 220), slices.Repeat([]int{13}, 4780)...)) {
		t.Error("5000 ticks")
	}
}

// P59: a world that has all the calls that a gate may hold does one more; that gate is not ok, and nothing is left of it.
func TestGateCloudFull(t *testing.T) {
	s := altered(asking(t), func(s *impl.Gate) { s.Cloud = calls(220) })
	got, code := impl.GateDo(s, event(t, s, step))
	if code != 0 || len(got.Cloud) != 221 || got.Cloud[0].Key != "acme/prod/1/0" || impl.GateOk(got) || run(&got.House, 1).At != 1 {
		t.Errorf("%d, %d calls", code, len(got.Cloud))
	}
	events := []impl.GateEvent{event(t, s, "step acme - prod 0 4 "), {Cut: 4}, {Req: impl.Req{Kind: impl.ReqTick}}}
	one, _ := impl.GateDo(s, events[0])
	if impl.GateOk(one) == false || len(one.Cloud) != 220 {
		t.Error("a step that asks nothing")
	}
	events[0] = event(t, s, step)
	events = append([]impl.GateEvent{event(t, s, tick)}, events...)
	one = s
	var want []int
	for _, e := range events {
		one, code = impl.GateDo(one, e)
		want = append(want, code)
	}
	got, codes := impl.GatePlay(s, events)
	if !slices.Equal(want, []int{0, 0, 1, 12}) || !slices.Equal(codes, want) || !alike(got, one) || !alike(got, impl.Gate{}) {
		t.Errorf("%v, played at once %v\n%+v", want, codes, got)
	}
}

// toEnd is a gate whose run was stepped with Num 0 to its end, and how many steps that took.
func toEnd(t *testing.T, s impl.Gate, id int) (impl.Gate, int) {
	t.Helper()
	for n := range 100 {
		if stands := run(&s.House, id).Stands; stands != impl.RunGoes && stands != impl.RunWaits {
			return s, n
		}
		got, code := happened(t, s, event(t, s, step))
		if code != 0 {
			return s, n
		}
		s = got
	}
	t.Fatal("it never ends")
	return s, 0
}

// P62: a run of several acts comes to its end, and then all is as it said.
func TestGateEnd(t *testing.T) {
	s, n := toEnd(t, asking(t), 1)
	r := run(&s.House, 1)
	if r.Stands != impl.RunDone || r.At != 3 || n != 5 || len(s.Cloud) != 3 {
		t.Fatalf("%d steps: %+v", n, r)
	}
	want := fmt.Sprintf("net.b {id:%q,zone:\"eu\"}\nvm.a {id:%q,size:2}\nvm.b {id:%q,link:%q} vm.a\n", modelGiven("acme/prod/1/0"), modelGiven("acme/prod/1/1"), modelGiven("acme/prod/1/2"), modelGiven("acme/prod/1/1"))
	if got := impl.StateWrite(prod(&s.House).State); got != want {
		t.Errorf("%s", got)
	}
	s = plays(t, s, "conf acme bob prod 0 0 "+confOther, plans, "approve acme cy prod 2 0 D")
	s, _ = toEnd(t, s, 2)
	want = fmt.Sprintf("net.b {id:%q,zone:\"us\"}\nvm.a {id:%q,link:%q,size:2} net.b\n", modelGiven("acme/prod/2/0"), modelGiven("acme/prod/1/1"), modelGiven("acme/prod/2/0"))
	if got := impl.StateWrite(prod(&s.House).State); got != want || run(&s.House, 2).Stands != impl.RunDone || len(s.Cloud) != 6 || s.Cloud[5].Text != "delete vm.b\n" {
		t.Errorf("%s%s", got, impl.GateBoard(s))
	}
}

// P62: a run that fails between, by a number above 0, and by a credential that is over; what was done is there.
func TestGateFails(t *testing.T) {
	for n := range 3 {
		s := plays(t, asking(t), slices.Repeat([]string{step, step}, n)...)
		one := plays(t, s, "step acme - prod 0 1 ", "10: "+step)
		if r := run(&one.House, 1); r.Stands != impl.RunFailed || r.At != n || len(one.Cloud) != n || len(prod(&one.House).State) != n {
			t.Errorf("by a number, at %d: %+v", n, r)
		}
		late := plays(t, s, append(slices.Repeat([]string{tick}, 21), step)...)
		if n == 2 {
			if r := run(&late.House, 1); r.Stands != impl.RunDone || len(late.Cloud) != 3 {
				t.Errorf("what was asked is not done: %+v", r)
			}
			continue
		}
		late = plays(t, late, step, "10: "+step)
		if r := run(&late.House, 1); r.Stands != impl.RunFailed || r.At != n+1 || len(late.Cloud) != n+1 || len(prod(&late.House).State) != n+1 || prod(&late.House).Version != n+1 {
			t.Errorf("by its credential, at %d: %+v", n, r)
		}
	}
	sum := "thing net.b\nend\nthing vm.a\n  size add @net.b.id 1\nend\n"
	other := plays(t, waiting(t), "conf acme bob prod 0 0 "+sum, plans, "cancel acme bob prod 1 0 ", "approve acme cy prod 2 0 D", step, step, step, step, step, "10: "+step)
	if r := run(&other.House, 2); r.Stands != impl.RunFailed || r.At != 1 || len(other.Cloud) != 1 || len(prod(&other.House).State) != 1 {
		t.Errorf("by what cannot be done: %+v", r)
	}
	still := plays(t, plays(t, asking(t), slices.Repeat([]string{tick}, 20)...), step, step)
	if r := run(&still.House, 1); r.Stands != impl.RunGoes || r.Intent == "" {
		t.Errorf("at its credential's last tick: %+v", r)
	}
}

// P62: plans by chance, one behind the other, each to its end.
func TestGateEndAny(t *testing.T) {
	r := rand.New(rand.NewSource(170))
	done := 0
	for range 10 {
		s := plays(t, impl.GateNew(someKey), begun("acme")...)
		for id := 1; id <= 6; id++ {
			list := anyConf(r)
			next, code := happened(t, s, event(t, s, "conf acme bob prod 0 0 "+impl.ConfWrite(list)))
			if code != 0 {
				break
			}
			before := prod(&next.House).State
			if next, code = happened(t, next, event(t, next, plans)); code != 0 {
				break
			}
			for _, name := range []string{"cy", "dee"} {
				next = plays(t, next, fmt.Sprintf("approve acme %s prod %d 0 D", name, id))
			}
			s, _ = toEnd(t, next, id)
			one := run(&s.House, id)
			var given []string
			for place := range one.Acts {
				given = append(given, modelGiven(modelPath("acme", "prod", id, place)))
			}
			blocks, _ := impl.ConfParse(one.Conf)
			want, n := impl.PlanAll(blocks, nil, before, one.Acts, given)
			if one.At != n || !alike(prod(&s.House).State, want) || (one.Stands == impl.RunDone) != (n == len(one.Acts)) || one.Stands != impl.RunDone && one.Stands != impl.RunFailed {
				t.Fatalf("%d of %d: %+v", n, len(one.Acts), one)
			}
			if one.Stands == impl.RunDone && n > 1 {
				done++
			}
		}
	}
	if done < 20 {
		t.Error(done, "are done")
	}
}

// P62: with an audit that is full nothing goes on, and the world does a call just once.
func TestGateAuditFull(t *testing.T) {
	s := asking(t)
	for len(s.House.Audit) < 200 {
		got, code := impl.GateDo(s, event(t, s, "plan acme zoe prod 0 0 "))
		if code != 4 {
			t.Fatal(code)
		}
		s = got
	}
	got := plays(t, s, "11: "+step, "11: "+step, "11: step acme - prod 0 1 ", tick, "11: conf acme bob prod 0 0 ")
	if len(got.Cloud) != 1 || len(got.Tape.Safe) != 205 || !alike(got.House.Tenants, s.House.Tenants) || len(got.House.Audit) != 200 || got.House.Now != 1 {
		t.Errorf("%s", impl.GateBoard(got))
	}
	if got.Tape.Safe[202] != piece(step) {
		t.Errorf("%q", got.Tape.Safe[202])
	}
	plays(t, got, "cut 1 0 "+step, "open", "11: "+step)
}
