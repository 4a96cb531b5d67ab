package tests

import (
	"fmt"
	"slices"
	"strings"
	"testing"

	"loop.example/portreeve/impl"
)

// P46: with each Need, with approvals too few, just enough, and more.
func TestHouseNeed(t *testing.T) {
	for need := range impl.TenantMaxNeed + 1 {
		for n := range 4 {
			h := approved(t, does(t, village(t, need, 10), plans), "prod", 1, []string{"eve", "cy", "dee"}[:n]...)
			if n < need {
				for range 2 {
					h = does(t, h, "10: "+step)
				}
				if run(&h, 1).Stands != impl.RunWaits || !alike(run(&h, 1).Cap, impl.Cap{}) {
					t.Errorf("%d of %d: %+v", n, need, run(&h, 1))
				}
				continue
			}
			got := does(t, h, step)
			want := *run(&h, 1)
			want.Stands, want.Cap = impl.RunGoes, impl.Cap{Tenant: "acme", Space: "prod", Run: 1, Until: impl.HouseCapTicks}
			want.Cap.Seal = modelSeal(someKey, want.Cap)
			if !alike(*run(&got, 1), want) || !impl.HouseSafe(got) {
				t.Errorf("%d of %d: %+v", n, need, run(&got, 1))
			}
		}
	}
}

// P46: who may approve still; those who lost the role count no more, those who have it again do.
func TestHouseStill(t *testing.T) {
	h := approved(t, does(t, village(t, 2, 10), plans), "prod", 1, "cy", "dee")
	for _, roles := range []string{"", " plan", " owner plan write"} {
		lost := does(t, h, "user acme ann - 0 0 dee"+roles, "10: "+step)
		does(t, lost, "4: approve acme dee prod 1 0 "+digest(h, "prod", 1), "user acme ann - 0 0 dee approve", "5: approve acme dee prod 1 0 "+digest(h, "prod", 1), step)
		got := does(t, approved(t, lost, "prod", 1, "eve"), step)
		if run(&got, 1).Stands != impl.RunGoes || !slices.Equal(run(&got, 1).Approvals, []string{"cy", "dee", "eve"}) {
			t.Errorf("%+v", run(&got, 1))
		}
	}
	gone := changed(h, func(h *impl.House) { h.Tenants[0].Users = slices.Delete(h.Tenants[0].Users, 2, 3) })
	does(t, gone, "10: "+step)
	nobody := changed(h, func(h *impl.House) { run(h, 1).Approvals = []string{"x", "y", "z"} })
	does(t, nobody, "10: "+step)
	one := changed(h, func(h *impl.House) { run(h, 1).Approvals = []string{"ann", "bobs", "cy", "x", "y", "z"} })
	does(t, one, "10: "+step)
	free := does(t, changed(h, func(h *impl.House) { prod(h).Need = 0 }), "user acme ann - 0 0 cy", "user acme ann - 0 0 dee", step)
	if run(&free, 1).Stands != impl.RunGoes {
		t.Error("it does not go")
	}
}

// P74, P75: an approval is of just one plan, by another one than who made it.
func TestHouseApproval(t *testing.T) {
	h := does(t, village(t, 1, 10), "user acme ann - 0 0 bob approve plan write", plans, "conf acme bob prod 0 0 "+confOther, "plan acme dee prod 0 0 ", "policy acme ann prod 0 0 deny X if act create X\n", plans)
	for id := 1; id <= 4; id++ {
		for other := 1; other <= 4; other++ {
			for _, user := range []string{"ann", "bob", "cy", "dee", "eve", "nobody"} {
				text := wantSum("x")
				if other < 4 {
					text = digest(h, "prod", other)
				}
				for _, text := range []string{text, strings.ToUpper(text), "", text[1:]} {
					r := impl.Req{Kind: impl.ReqApprove, Tenant: "acme", User: user, Space: "prod", Run: id, Text: text}
					_, code := impl.HouseDo(h, r)
					got := asked(t, h, r, code)
					right := id < 3 && text == digest(h, "prod", id) && slices.Contains([]string{"bob", "cy", "dee", "eve"}, user) && user != run(&h, id).By
					if (code == 0) != right {
						t.Errorf("%s approves %d: %d", user, id, code)
					}
					if code == 0 && !slices.Equal(run(&got, id).Approvals, []string{user}) {
						t.Errorf("%s approves %d: %v", user, id, run(&got, id).Approvals)
					}
				}
			}
		}
	}
}

// P46: what the policy says when the run is to begin counts, whatever it said when it was planned.
func TestHousePolicy(t *testing.T) {
	h := approved(t, does(t, village(t, 1, 10), plans), "prod", 1, "cy")
	for text, stands := range map[string]int{
		"": impl.RunGoes, "deny X if act delete X\n": impl.RunGoes, "deny vm.z if act delete vm.a\n": impl.RunGoes, "deny X Y if act X Y\n": impl.RunGoes, "deny\n": impl.RunGoes,
		"deny X if act create X\n": impl.RunDenied, "deny X if attr X size 1\n": impl.RunDenied, "deny vm.z\n": impl.RunDenied, "ok vm.a\ndeny X if act create X and not ok X\n": impl.RunDenied, "deny X if attr X link unknown\n": impl.RunDenied,
		"p A B C if q A and q B and q C\nq X if act A X\nq A if act A X\nq a\nq b\nq c\nq d\n": impl.RunDenied,
	} {
		got := does(t, h, "policy acme ann prod 0 0 "+text, step)
		if run(&got, 1).Stands != stands || stands == impl.RunDenied && !alike(run(&got, 1).Cap, impl.Cap{}) {
			t.Errorf("%q: %+v", text, run(&got, 1))
		}
		if stands == impl.RunDenied {
			does(t, got, "10: "+step, "policy acme ann prod 0 0 ", "10: "+step)
		}
	}
	few := does(t, village(t, 1, 10), plans, "policy acme ann prod 0 0 deny X if act create X\n", "10: "+step)
	if run(&few, 1).Stands != impl.RunWaits {
		t.Error("denied ahead of its approvals")
	}
	late := does(t, approved(t, does(t, village(t, 1, 10), "policy acme ann prod 0 0 deny X if act create X\n", plans, "policy acme ann prod 0 0 ", plans), "prod", 2, "cy"), step)
	if run(&late, 1).Stands != impl.RunDenied || run(&late, 2).Stands != impl.RunGoes {
		t.Error("what was denied goes")
	}
	own := does(t, approved(t, does(t, village(t, 1, 10), plans), "prod", 1, "cy"), "conf acme bob prod 0 0 "+confOther, step, step, step, step, step)
	if prod(&own).Runs[0].Stands != impl.RunDone || impl.StateWrite(prod(&own).State) == "" {
		t.Error("a run's own configuration counts, not the space's")
	}
}

// P76: a plan of a state that is another one since is stale, even with approvals too few, and whatever the policy says.
func TestHouseStale(t *testing.T) {
	h := does(t, goes(t), plans, plans)
	all := approved(t, h, "prod", 2, "cy", "dee")
	for _, h := range []impl.House{h, all, does(t, all, "policy acme ann prod 0 0 deny X if act create X\n")} {
		done := does(t, h, step, step, step, step)
		for _, version := range []int{1, 2, 3, impl.CapMaxTick - 1} {
			got := does(t, changed(done, func(h *impl.House) { prod(h).Version = version }), step)
			if run(&got, 2).Stands != impl.RunStale || run(&got, 3).Stands != impl.RunWaits || !slices.Equal(run(&got, 2).Approvals, run(&h, 2).Approvals) {
				t.Errorf("version %d: %+v", version, run(&got, 2))
			}
			got = does(t, got, step, "10: "+step)
			if run(&got, 3).Stands != impl.RunStale {
				t.Errorf("version %d: %+v", version, run(&got, 3))
			}
		}
	}
	back := changed(all, func(h *impl.House) { run(h, 1).Stands, prod(h).Version, run(h, 2).Version = impl.RunFailed, 5, 4 })
	if got := does(t, back, step); run(&got, 2).Stands != impl.RunStale {
		t.Errorf("%+v", run(&got, 2))
	}
}

// A run without acts is done when it would begin.
func TestHouseNoActs(t *testing.T) {
	h := does(t, village(t, 1, 0), "conf acme bob prod 0 0 ", plans, "10: "+step)
	got := does(t, approved(t, h, "prod", 1, "cy"), tick, step, "10: "+step)
	c := impl.Cap{Tenant: "acme", Space: "prod", Run: 1, From: 1, Until: 21}
	c.Seal = modelSeal(someKey, c)
	if r := run(&got, 1); r.Stands != impl.RunDone || r.At != 0 || prod(&got).Version != 0 || !alike(r.Cap, c) || r.Digest != wantSum("") {
		t.Errorf("%+v", r)
	}
}

// P79: from when, until when, and that it is over then.
func TestHouseTicks(t *testing.T) {
	waits := approved(t, does(t, village(t, 1, 10), plans), "prod", 1, "cy")
	for now, until := range map[int]int{0: 20, 1: 21, 500: 520, 999978: 999998, 999979: 999999, 999980: 999999, 999981: 999999, 999998: 999999, 999999: 999999} {
		h := does(t, at(waits, now), step)
		if c := run(&h, 1).Cap; c.From != now || c.Until != until || !impl.CapMay(someKey, c, "acme", "prod", 1, "vm.a", now) {
			t.Errorf("at %d: %+v", now, c)
		}
		for _, tick := range []int{0, now - 1, now, until - 1, until, until + 1, until + 1000, 999999} {
			if tick < 0 || tick > 999999 {
				continue
			}
			got := does(t, at(h, tick), step)
			r := run(&got, 1)
			if may := tick >= now && tick <= until; may != (r.Stands == impl.RunGoes && r.Intent == "acme/prod/1/0") || !may && (r.Stands != impl.RunFailed || r.Intent != "") {
				t.Errorf("made at %d, asked at %d: %+v", now, tick, r)
			}
			if r.At != 0 || len(prod(&got).State) != 0 || prod(&got).Version != 0 || !alike(r.Cap, run(&h, 1).Cap) {
				t.Errorf("made at %d, asked at %d: %+v", now, tick, prod(&got))
			}
		}
	}
	asks := at(does(t, waits, step, step), 500)
	if got := does(t, asks, step, step); run(&got, 1).Stands != impl.RunFailed || run(&got, 1).At != 1 {
		t.Error("what was asked already is not settled, or more is asked")
	}
}

// Of a credential that is narrowed the limits count.
func TestHouseNarrowed(t *testing.T) {
	for limit, lets := range map[string]bool{"only vm.a": true, "only vm.b": false, "until 0": true, "until 7": true} {
		h := changed(goes(t), func(h *impl.House) { resealed(h, 1, func(c *impl.Cap) { c.Limits = []string{limit} }) })
		got := does(t, h, step)
		if (run(&got, 1).Stands == impl.RunGoes) != lets {
			t.Errorf("%s: %+v", limit, run(&got, 1))
		}
		if limit == "until 0" {
			if late := does(t, h, tick, step); run(&late, 1).Stands != impl.RunFailed {
				t.Errorf("%s: %+v", limit, run(&late, 1))
			}
		}
	}
}

// P78: a run that is neither waiting nor going stays as it is, whatever is asked.
func TestHouseEnded(t *testing.T) {
	h := town(t)
	h = changed(h, func(h *impl.House) { prod(h).Runs = prod(h).Runs[:5] })
	for id := 1; id <= 5; id++ {
		for _, user := range []string{"ann", "bob", "cy", "dee", "-"} {
			for kind := 3; kind <= 10; kind++ {
				for _, text := range []string{"", digest(h, "prod", id), confTwo, "bob approve plan"} {
					for num := range 2 {
						r, _ := modelReqRead(fmt.Sprintf("%s acme %s prod %d %d %s", kindWords[kind], user, id, num, text))
						got, code := impl.HouseDo(h, r)
						if s := prod(&got); !alike(s.Runs[:5], prod(&h).Runs) {
							t.Errorf("%q changes a run", reqLine(r))
						}
						if want := map[bool]int{true: 7, false: 4}[user == "bob" && kind == 9 || user == "cy" && kind == 8 || user == "dee" && kind > 7]; (kind == 8 || kind == 9) && code != want {
							t.Errorf("%q: %d", reqLine(r), code)
						}
					}
				}
			}
		}
	}
	does(t, h, "10: "+step, "10: step acme - prod 1 0 ")
}

// P78: what can be cancelled.
func TestHouseCancel(t *testing.T) {
	h := does(t, village(t, 1, 10), plans, plans, plans)
	got := does(t, h, "cancel acme dee prod 1 0 ", "7: cancel acme bob prod 1 0 ", "cancel acme bob prod 3 0 text")
	if run(&got, 1).Stands != impl.RunCancelled || run(&got, 2).Stands != impl.RunWaits || run(&got, 3).Stands != impl.RunCancelled {
		t.Errorf("%+v", prod(&got).Runs)
	}
	h = goes(t)
	got = does(t, h, "4: cancel acme cy prod 1 0 ", "cancel acme bob prod 1 0 ", "10: "+step, "7: cancel acme bob prod 1 0 ")
	want := *run(&h, 1)
	want.Stands = impl.RunCancelled
	if !alike(*run(&got, 1), want) {
		t.Errorf("%+v", run(&got, 1))
	}
	h = does(t, h, step, "7: cancel acme bob prod 1 0 ", step)
	if got = does(t, h, "cancel acme bob prod 1 0 ", "10: "+step); run(&got, 1).Stands != impl.RunCancelled || run(&got, 1).At != 1 || prod(&got).Version != 1 || len(prod(&got).State) != 1 {
		t.Errorf("%+v", prod(&got))
	}
	does(t, h, step, "7: cancel acme bob prod 1 0 ", step, "7: cancel acme bob prod 1 0 ")
}

// P48: only one run goes at a time; the next begins when it is over.
func TestHouseOneGoes(t *testing.T) {
	h := does(t, village(t, 0, 10), plans, plans, plans, step, step)
	if run(&h, 1).Stands != impl.RunGoes || run(&h, 2).Stands != impl.RunWaits {
		t.Errorf("%+v", prod(&h).Runs)
	}
	next := does(t, does(t, h, "step acme - prod 0 1 "), step, step, step)
	if run(&next, 1).Stands != impl.RunFailed || run(&next, 2).Stands != impl.RunGoes || run(&next, 2).At != 1 || run(&next, 3).Stands != impl.RunWaits {
		t.Errorf("%+v", prod(&next).Runs)
	}
	behind := approved(t, does(t, village(t, 1, 10), plans, plans), "prod", 2, "cy")
	behind = does(t, behind, "10: "+step, "cancel acme bob prod 1 0 ", step)
	if run(&behind, 2).Stands != impl.RunGoes {
		t.Errorf("%+v", prod(&behind).Runs)
	}
	later := changed(h, func(h *impl.House) {
		*run(h, 3) = *run(h, 1)
		run(h, 3).Id, run(h, 3).Intent, run(h, 1).Stands, run(h, 1).Intent = 3, "", impl.RunFailed, ""
		resealed(h, 3, func(c *impl.Cap) { c.Run = 3 })
	})
	if got := does(t, later, step); run(&got, 3).Intent != "acme/prod/3/0" || run(&got, 2).Stands != impl.RunWaits {
		t.Errorf("%+v", prod(&got).Runs)
	}
}

// ending is a house whose state has two things, with a configuration that asks for a creation, an update, a replacement or a deletion, one each.
func ending(t *testing.T) impl.House {
	t.Helper()
	h := does(t, village(t, 0, 10), "conf acme bob prod 0 0 thing db.x\nend\nthing net.b\n  zone \"eu\"\nend\nthing vm.a\n  link @net.b.id\nend\n", plans)
	for range 7 {
		h = does(t, h, step)
	}
	return does(t, h, "10: "+step, "conf acme bob prod 0 0 thing net.b\n  size 7\n  zone \"us\"\nend\nthing vm.a\n  link @net.b.id\nend\nthing vm.c\n  size add 1 1\n  tag @vm.a.id\nend\n", plans, step)
}

// P49, P50: what is asked of the world for each kind of act, and what stands behind it.
func TestHouseCall(t *testing.T) {
	h := ending(t)
	given := func(run, at int) string { return impl.HouseGiven(modelPath("acme", "prod", run, at)) }
	texts := []string{
		"replace net.b {size:7,zone:\"us\"}\n",
		"update vm.a {link:\"" + given(2, 0) + "\"} net.b\n",
		"create vm.c {size:2,tag:\"" + given(1, 2) + "\"} vm.a\n",
		"delete db.x\n",
	}
	states := []string{
		"db.x {id:\"" + given(1, 0) + "\"}\nnet.b {id:\"" + given(2, 0) + "\",size:7,zone:\"us\"}\nvm.a {id:\"" + given(1, 2) + "\",link:\"" + given(1, 1) + "\"} net.b\n",
		"db.x {id:\"" + given(1, 0) + "\"}\nnet.b {id:\"" + given(2, 0) + "\",size:7,zone:\"us\"}\nvm.a {id:\"" + given(1, 2) + "\",link:\"" + given(2, 0) + "\"} net.b\n",
		"db.x {id:\"" + given(1, 0) + "\"}\nnet.b {id:\"" + given(2, 0) + "\",size:7,zone:\"us\"}\nvm.a {id:\"" + given(1, 2) + "\",link:\"" + given(2, 0) + "\"} net.b\nvm.c {id:\"" + given(2, 2) + "\",size:2,tag:\"" + given(1, 2) + "\"} vm.a\n",
		"net.b {id:\"" + given(2, 0) + "\",size:7,zone:\"us\"}\nvm.a {id:\"" + given(1, 2) + "\",link:\"" + given(2, 0) + "\"} net.b\nvm.c {id:\"" + given(2, 2) + "\",size:2,tag:\"" + given(1, 2) + "\"} vm.a\n",
	}
	for i, text := range texts {
		if call, asks := impl.HouseCall(h, "acme", "prod"); asks || !alike(call, impl.Call{}) {
			t.Fatalf("without an intent it asks %+v", call)
		}
		h = does(t, h, step)
		act := run(&h, 2).Acts[i]
		call, asks := impl.HouseCall(h, "acme", "prod")
		want := impl.Call{Key: fmt.Sprintf("acme/prod/2/%d", i), Kind: []int{3, 2, 1, 4}[i], Id: act.Id, Text: text, Cap: run(&h, 2).Cap}
		if !asks || !alike(call, want) || run(&h, 2).Intent != call.Key {
			t.Errorf("it asks %+v, not %+v", call, want)
		}
		failed := does(t, h, fmt.Sprintf("step acme - prod 0 %d ", []int{1, 2, 999999, 1}[i]), "10: "+step)
		if s := prod(&failed); !alike(s.State, prod(&h).State) || s.Version != prod(&h).Version || s.Runs[1].At != i || s.Runs[1].Stands != impl.RunFailed || s.Runs[1].Intent != "" {
			t.Errorf("%+v", s)
		}
		h = does(t, h, step)
		if s := prod(&h); impl.StateWrite(s.State) != states[i] || s.Version != 4+i || s.Runs[1].At != i+1 || s.Runs[1].Intent != "" || (s.Runs[1].Stands == impl.RunDone) != (i == 3) {
			t.Errorf("%s%+v", impl.StateWrite(s.State), s.Runs[1])
		}
	}
	does(t, h, "10: "+step)
}

// P49, P50: an act that cannot be done any more is asked by nobody, and the run fails.
func TestHouseCallCodes(t *testing.T) {
	h := does(t, goes(t), step)
	for what, change := range map[string]func(h *impl.House){
		"the thing is there":           func(h *impl.House) { prod(h).State = things("vm.a {id:\"i-1\"}") },
		"it is not to be":              func(h *impl.House) { run(h, 1).Conf = "" },
		"it is to be another one":      func(h *impl.House) { run(h, 1).Conf = strings.Replace(confTwo, "size 1", "size 2", 1) },
		"it cannot be evaluated":       func(h *impl.House) { run(h, 1).Conf = strings.Replace(confTwo, "size 1", "size add \"a\" 1", 1) },
		"it is not known yet":          func(h *impl.House) { run(h, 1).At, run(h, 1).Intent = 1, "acme/prod/1/1" },
		"there are too many":           func(h *impl.House) { prod(h).State = tenThings() },
		"there are others":             func(h *impl.House) { prod(h).State = tenThings()[:9] },
		"the space has other settings": func(h *impl.House) { prod(h).Conf, prod(h).Policy = "", "deny vm.a\n" },
	} {
		odd := changed(h, change)
		fine := strings.HasPrefix(what, "there are others") || strings.HasPrefix(what, "the space")
		call, asks := impl.HouseCall(odd, "acme", "prod")
		if want, _ := modelCall(odd, "acme", "prod"); asks != fine || !alike(call, want) {
			t.Errorf("%s: %+v, %v", what, call, asks)
		}
		got := does(t, odd, step)
		if r := run(&got, 1); (r.Stands == impl.RunFailed) == fine || r.Intent != "" || !fine && (!alike(prod(&got).State, prod(&odd).State) || prod(&got).Version != 0 || r.At != run(&odd, 1).At) {
			t.Errorf("%s: %+v", what, prod(&got))
		}
		got = does(t, odd, "step acme - prod 0 1 ")
		if r := run(&got, 1); r.Stands != impl.RunFailed || !alike(prod(&got).State, prod(&odd).State) {
			t.Errorf("%s: %+v", what, prod(&got))
		}
	}
	for _, at := range [][2]string{{"acme", "dev"}, {"beta", "prod"}, {"", "prod"}, {"acme", ""}, {"prod", "acme"}, {"acme ", "prod"}} {
		if call, asks := impl.HouseCall(h, at[0], at[1]); asks || !alike(call, impl.Call{}) {
			t.Errorf("%v asks", at)
		}
	}
	for _, no := range []impl.House{village(t, 1, 10), does(t, village(t, 1, 10), plans), goes(t), changed(h, func(h *impl.House) { h.Now = -1 }), does(t, h, "step acme - prod 0 1 ")} {
		if call, asks := impl.HouseCall(no, "acme", "prod"); asks || !alike(call, impl.Call{}) {
			t.Errorf("%+v asks", call)
		}
	}
	end := changed(h, func(h *impl.House) { prod(h).Version = impl.CapMaxTick })
	if _, asks := impl.HouseCall(end, "acme", "prod"); !asks {
		t.Error("an intent is there, and asks nothing")
	}
}

// things is a state, told by the lines of StateWrite without needs.
func things(list ...string) []impl.Thing {
	var all []impl.Thing
	for _, line := range list {
		id, attrs, _ := strings.Cut(line, " ")
		v, _ := impl.ValueParse(attrs)
		all = append(all, impl.Thing{Id: id, Attrs: v})
	}
	return all
}

func tenThings() []impl.Thing {
	var lines []string
	for i := range 10 {
		lines = append(lines, fmt.Sprintf("db.%c {id:\"\"}", 'a'+i))
	}
	return things(lines...)
}

// P53: what the world gives hangs on the key alone.
func TestHouseGiven(t *testing.T) {
	for key, want := range map[string]string{"": "i-e3b0c4", "abc": "i-ba7816", "acme/prod/1/0": "i-e7068b", "acme/prod/1/1": "i-618a41"} {
		if got := impl.HouseGiven(key); got != want {
			t.Errorf("%q: %s", key, got)
		}
	}
	for _, key := range []string{" ", "\x00", "\xff\xfe", "a\nb", someBytes(1000), strings.Repeat("x", 1<<16)} {
		if got := impl.HouseGiven(key); got != modelGiven(key) || len(got) != 8 {
			t.Errorf("%.40q: %s", key, got)
		}
	}
}

// HouseSafe: each run that goes, or has come anywhere, has enough approvals.
func TestHouseSafe(t *testing.T) {
	h := approved(t, does(t, village(t, 2, 10), plans), "prod", 1, "cy", "dee")
	going := does(t, h, step, step, step)
	for need := range 4 {
		for stands := 1; stands <= 7; stands++ {
			for at := range 3 {
				odd := changed(going, func(h *impl.House) {
					prod(h).Need, run(h, 1).Stands, run(h, 1).At = need, stands, at
					if slices.Contains([]int{impl.RunWaits, impl.RunDenied, impl.RunStale}, stands) {
						run(h, 1).Cap = impl.Cap{}
					}
				})
				want := impl.HouseOk(odd) && (need <= 2 || at == 0 && stands != impl.RunGoes)
				if impl.HouseSafe(odd) != want || modelSafe(odd) != want {
					t.Errorf("need %d, stands %d, at %d: %v", need, stands, at, impl.HouseSafe(odd))
				}
			}
		}
	}
	if bad := changed(h, func(h *impl.House) { h.Now = -1 }); !impl.HouseSafe(h) || impl.HouseSafe(bad) {
		t.Error("safe")
	}
	later := changed(town(t), func(h *impl.House) { run(h, 6).Approvals = nil })
	second := changed(town(t), func(h *impl.House) {
		h.Tenants = append(h.Tenants, twin(h.Tenants[1]))
		h.Tenants[2].Name, h.Tenants[2].Spaces[0].Need = "gamma", 1
		h.Tenants[2].Spaces[0].Runs = []impl.Run{{Id: 1, By: "bob", Acts: plan("delete vm.a"), Digest: wantSum("delete vm.a\n"), Stands: impl.RunFailed, At: 1}}
	})
	for _, odd := range []impl.House{later, second} {
		if !impl.HouseOk(odd) || impl.HouseSafe(odd) {
			t.Error(impl.HouseOk(odd), impl.HouseSafe(odd))
		}
	}
}
