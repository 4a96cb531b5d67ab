package tests

import (
	"fmt"
	"slices"
	"strings"
	"testing"

	"loop.example/portreeve/impl"
)

// full is a house with as many entries in its audit as there may be.
func full(h impl.House) impl.House {
	h = twin(h)
	told := saidOf(h.Audit)
	for len(told) < 200 {
		told = append(told, said{"acme", "plan", "x"})
	}
	h.Audit = audit(told...)
	return h
}

// at is a house at a tick.
func at(h impl.House, now int) impl.House {
	h = twin(h)
	h.Now = now
	return h
}

// changed is a house with something else in it.
func changed(h impl.House, change func(h *impl.House)) impl.House {
	h = twin(h)
	change(&h)
	return h
}

// Codes of ReqTick and ReqTenant, and which comes first; 2 of what is no request.
func TestHouseFirstCodes(t *testing.T) {
	h := town(t)
	last := at(h, impl.CapMaxTick)
	bad := at(h, -1)
	for _, r := range badReqs() {
		if got := asked(t, h, r, 2); !alike(got, h) {
			t.Errorf("%.60q changes something", reqLine(r))
		}
		asked(t, last, r, 2)
		asked(t, full(last), r, 2)
		asked(t, bad, r, 1)
	}
	asked(t, bad, impl.Req{Kind: impl.ReqTick}, 1)
	asked(t, last, impl.Req{Kind: impl.ReqTick, Num: -1}, 2)
	asked(t, full(h), impl.Req{Kind: impl.ReqTenant, Run: -1}, 2)
	does(t, last, "6: "+tick, "6: tick acme ann prod 0 0 x", "6: tick nobody - - 0 0 ")
	does(t, full(last), "6: "+tick, "6: tick acme ann prod 0 0 x")
	does(t, full(h), tick, "tick acme bob prod 1 1 x", "11: tenant - - - 0 0 ", "11: tenant gamma - - 0 0 ", "11: tenant acme ann - 0 0 ", "11: tenant gamma ann - 0 0 ", "11: user nobody ann - 0 0 bob", "11: user acme nobody - 0 0 bob", "11: "+step, "11: step acme - none 0 0 ", "11: plan - - - 0 0 ")
	does(t, h, "2: tenant - ann - 0 0 ", "2: tenant gamma - - 0 0 ", "2: tenant - - - 0 0 ", "2: tenant acme - - 0 0 ", "5: tenant acme ann - 0 0 ", "5: tenant acme zoe - 0 0 ", "5: tenant beta ann prod 3 4 x", "tenant abba ann prod 3 4 x", "6: tenant gamma ann - 0 0 ", "5: tenant abba ann - 0 0 ", "2: tenant - ann - 0 0 ", "2: tenant gamma - - 0 0 ")
}

// ReqTenant: the tenant is there, with one owner and nothing else, in its place.
func TestHouseTenant(t *testing.T) {
	for _, names := range [][]string{{"a", "b", "c"}, {"c", "b", "a"}, {"b", "c", "a"}, {"ab", "a", "abc"}} {
		h := impl.HouseNew(someKey)
		for _, name := range names {
			h = does(t, h, "tenant "+name+" ann prod 7 8 text")
		}
		slices.Sort(names)
		for i, name := range names {
			if !alike(h.Tenants[i], impl.Tenant{Name: name, Users: users("ann owner")}) {
				t.Errorf("%v: %+v", names, h.Tenants[i])
			}
		}
		does(t, h, "6: tenant d ann - 0 0 ", "5: tenant "+names[0]+" ann - 0 0 ")
	}
}

// P73: who has no role is refused, whatever is asked; and 3, 4 and 11 in their order.
func TestHouseNoRole(t *testing.T) {
	h := town(t)
	texts := []string{"", "x", "zoe plan", confTwo, "deny X if act create X\n", digest(h, "prod", 7)}
	for _, user := range []string{"-", "zoe", "nobody", "bobs", "an"} {
		for _, kind := range []string{"user", "space", "conf", "policy", "plan", "approve", "cancel"} {
			for i, text := range texts {
				for _, space := range []string{"prod", "none", "-"} {
					rest := fmt.Sprintf(" %s %s %d %d %s", user, space, 7-i, i, text)
					does(t, h, "4: "+kind+" acme"+rest, "3: "+kind+" nobody"+rest, "3: "+kind+" -"+rest)
				}
			}
			rest := " " + user + " prod 7 0 " + texts[0]
			does(t, full(h), "11: "+kind+" acme"+rest, "11: "+kind+" nobody"+rest)
		}
	}
	does(t, h, "step acme - prod 0 0 ", "10: step beta - dev 0 0 ", "10: step beta nobody dev 0 0 ", "3: step nobody - prod 0 0 ", "3: step acme - none 0 0 ", "3: step acme - - 0 0 ")
}

// Each kind needs just its role: 4 without it, ahead of its codes and of a space that is not there.
func TestHouseRoles(t *testing.T) {
	base := does(t, village(t, 1, 10), plans)
	lines := map[string][2]string{
		"user": {"owner", "zoe plan"}, "space": {"owner", ""}, "conf": {"write", confTwo}, "policy": {"owner", ""}, "plan": {"plan", ""}, "approve": {"approve", digest(base, "prod", 1)}, "cancel": {"plan", ""},
	}
	for kind, x := range lines {
		for set := range 16 {
			var has []string
			for i, role := range roles {
				if set>>i&1 == 1 {
					has = append(has, role)
				}
			}
			h := does(t, base, "user acme ann - 0 0 "+strings.Join(append([]string{"eve"}, has...), " "))
			space := map[bool]string{true: "dev", false: "prod"}[kind == "space"]
			line := fmt.Sprintf("%s acme eve %s 1 0 %s", kind, space, x[1])
			if slices.Contains(has, x[0]) {
				if kind == "user" {
					does(t, h, "6: "+line, "user acme eve - 0 0 eve")
					continue
				}
				does(t, h, line)
				continue
			}
			does(t, h, "4: "+line, fmt.Sprintf("4: %s acme eve none 99 0 what", kind), fmt.Sprintf("4: %s acme eve - 0 11 what", kind))
		}
	}
}

// ReqUser: who is new and who is there, each way to tell roles, and what is none.
func TestHouseUser(t *testing.T) {
	h := does(t, impl.HouseNew(someKey), "tenant acme m - 0 0 ")
	ask := "user acme m - 0 0 "
	for set := range 16 {
		line := ""
		for i, role := range roles {
			if set>>i&1 == 1 {
				line += " " + role
			}
		}
		for _, name := range []string{"a", "b", "z"} {
			got := does(t, h, ask+"b write", ask+name+line)
			if want := user(name + line); !slices.ContainsFunc(got.Tenants[0].Users, func(u impl.User) bool { return alike(u, want) }) {
				t.Errorf("%q: %+v", name+line, got.Tenants[0].Users)
			}
		}
	}
	for _, text := range []string{"", " ", "a ", " a", "a  plan", "a plan ", "a plan  write", "a plan approve", "a write plan", "a plan plan", "a owner approve plan write", "a king", "a Plan", "a,plan", "a\nplan", "a plan\n", "a\n", "A plan", "1a plan", "aaaaaaaa plan", "a-b plan", "- plan", "plan write", "a plan,write", "a approve owner plan write write", "a\nx", strings.Repeat("a ", 600), strings.Repeat(" ", 1200)} {
		if text == "plan write" {
			does(t, h, ask+text) // somebody may be called so
			continue
		}
		does(t, h, "2: "+ask+text, ask+"b", ask+"c", ask+"d", ask+"e", "2: "+ask+text, "6: "+ask+"f", "6: "+ask+"a plan")
	}
	whole := does(t, h, ask+"b plan", ask+"c", ask+"d", ask+"e", "6: "+ask+"f", ask+"b", ask+"e approve owner plan write", "6: "+ask+"zz plan", "2: "+ask+"zz king")
	if !alike(whole.Tenants[0].Users, []impl.User{user("b"), user("c"), user("d"), user("e approve owner plan write"), user("m owner")}) {
		t.Errorf("%+v", whole.Tenants[0].Users)
	}
	does(t, whole, ask+"m plan", "4: "+ask+"m owner", "user acme e - 0 0 m owner", ask+"m owner write")
}

// ReqSpace: each edge of Num, and what is there.
func TestHouseSpace(t *testing.T) {
	h := does(t, impl.HouseNew(someKey), "tenant acme ann - 0 0 ", "user acme ann - 0 0 bob plan")
	for num, want := range map[int][2]int{0: {0, 0}, 1: {0, 1}, 10: {0, 10}, 100: {1, 0}, 203: {2, 3}, 110: {1, 10}, 300: {3, 0}, 310: {3, 10}} {
		got := does(t, h, fmt.Sprintf("space acme ann dev 7 %d text", num))
		if !alike(got.Tenants[0].Spaces, []impl.Space{{Name: "dev", Need: want[0], Quota: want[1]}}) {
			t.Errorf("%d: %+v", num, got.Tenants[0].Spaces)
		}
	}
	for _, num := range []int{11, 99, 111, 199, 211, 311, 399, 400, 410, 1000, 999999, 999900, 100000} {
		does(t, h, fmt.Sprintf("2: space acme ann dev 0 %d ", num), fmt.Sprintf("2: space acme ann - 0 %d ", num))
	}
	does(t, h, "2: space acme ann - 0 0 ", "2: space acme ann - 0 310 ")
	whole := does(t, h, "space acme ann prod 0 310 ", "5: space acme ann prod 0 0 ", "2: space acme ann prod 0 400 ", "space acme ann dev 0 0 ", "5: space acme ann dev 0 0 ", "5: space acme ann prod 0 310 ", "6: space acme ann test 0 0 ", "6: space acme ann a 0 0 ", "2: space acme ann test 0 11 ", "2: space acme ann - 0 0 ", "4: space acme bob - 0 0 ")
	if s := whole.Tenants[0].Spaces; s[0].Name != "dev" || s[1].Name != "prod" || s[1].Quota != 10 {
		t.Errorf("%+v", s)
	}
}

// ReqConf and ReqPolicy: what is read, and what is not.
func TestHouseTexts(t *testing.T) {
	h := village(t, 1, 10)
	for _, text := range []string{"", confTwo, confOther, "input n 1\nlet m add n 1\noutput o m\n"} {
		if got := does(t, h, "conf acme bob prod 4 5 "+text); prod(&got).Conf != text {
			t.Errorf("%q", prod(&got).Conf)
		}
	}
	for _, text := range []string{" ", "\n", "what", confTwo + "\n", confTwo[:len(confTwo)-1], "let m n\n", "thing a.a\n  x @a.a.id\nend\n", strings.Repeat("x", 1200), "thing vm.a\n"} {
		does(t, h, "2: conf acme bob prod 0 0 "+text, "3: conf acme bob none 0 0 "+text, "4: conf acme ann prod 0 0 "+text)
	}
	for _, text := range []string{"", "deny X if act create X\n", "ok\ndeny vm.a if not ok\n", "deny vm.a\n"} {
		if got := does(t, h, "policy acme ann prod 4 5 "+text); prod(&got).Policy != text {
			t.Errorf("%q", prod(&got).Policy)
		}
	}
	for _, text := range []string{" ", "\n", "deny X\n", "deny vm.a", "odd if not odd\n", "act create x\n", strings.Repeat("ok\n", 11), strings.Repeat("a", 1200)} {
		does(t, h, "2: policy acme ann prod 0 0 "+text, "3: policy acme ann none 0 0 "+text, "4: policy acme bob prod 0 0 "+text)
	}
}

// crowd is a policy that says too much of more than six acts.
const crowd = "p X Y Z if act A X and act B Y and act C Z\n"

// manyConf is a configuration of n things.
func manyConf(n int) string {
	text := ""
	for i := range n {
		text += fmt.Sprintf("thing vm.%c\nend\n", 'a'+i)
	}
	return text
}

// P54, P77: ReqPlan with each of its codes, in their order, and at each edge.
func TestHousePlanCodes(t *testing.T) {
	h := village(t, 1, 10)
	conf := func(h impl.House, text string) impl.House { return does(t, h, "conf acme bob prod 0 0 "+text) }
	for n := range 11 {
		for quota := range 11 {
			got := changed(conf(h, manyConf(n)), func(h *impl.House) { prod(h).Quota = quota })
			if n > quota {
				does(t, got, "8: "+plans)
				continue
			}
			if got = does(t, got, plans); len(run(&got, 1).Acts) != n || run(&got, 1).Stands != impl.RunWaits || run(&got, 1).By != "bob" {
				t.Errorf("%d of %d: %+v", n, quota, run(&got, 1))
			}
		}
	}
	fault := conf(h, "thing vm.a\n  size add \"a\" 1\nend\n")
	denied := does(t, h, "policy acme ann prod 0 0 deny X if act create X\n")
	much := does(t, conf(h, manyConf(7)), "policy acme ann prod 0 0 "+crowd)
	does(t, fault, "8: "+plans)
	does(t, much, "8: "+plans)
	if got := does(t, denied, plans); run(&got, 1).Stands != impl.RunDenied || len(run(&got, 1).Acts) != 2 {
		t.Errorf("%+v", run(&got, 1))
	}
	fill := func(h impl.House) impl.House {
		return changed(h, func(h *impl.House) {
			for len(prod(h).Runs) < impl.TenantMaxRuns {
				prod(h).Runs = append(prod(h).Runs, impl.Run{Id: len(prod(h).Runs) + 1, By: "bob", Digest: wantSum(""), Stands: impl.RunWaits})
			}
		})
	}
	does(t, fill(h), "6: "+plans)
	does(t, fill(fault), "8: "+plans)
	does(t, fill(much), "6: "+plans)
	does(t, fill(denied), "6: "+plans)
	does(t, changed(fill(h), func(h *impl.House) { prod(h).Quota = 1 }), "8: "+plans)
	seven := changed(fill(h), func(h *impl.House) { prod(h).Runs = prod(h).Runs[:7] })
	if got := does(t, seven, plans, "6: "+plans); len(prod(&got).Runs) != 8 {
		t.Error(len(prod(&got).Runs))
	}
	does(t, h, "3: plan acme bob none 0 0 ", "4: plan acme cy none 0 0 ", "plan acme dee prod 9 9 text")
}

// ReqApprove and ReqCancel: each of their codes, in their order.
func TestHouseRunCodes(t *testing.T) {
	h := does(t, village(t, 1, 10), plans, "plan acme dee prod 0 0 ", "conf acme bob prod 0 0 "+confOther, plans, "conf acme bob prod 0 0 "+manyConf(3))
	own, other := digest(h, "prod", 1), digest(h, "prod", 3)
	approve := func(code int, user string, run int, text string) string {
		return fmt.Sprintf("%d: approve acme %s prod %d 0 %s", code, user, run, text)
	}
	for _, id := range []int{0, 4, 8, 9999} {
		does(t, h, approve(3, "cy", id, own), approve(4, "bob", id, own), fmt.Sprintf("3: cancel acme bob prod %d 0 ", id), fmt.Sprintf("4: cancel acme cy prod %d 0 ", id))
	}
	does(t, h, "3: approve acme cy none 1 0 "+own, "3: cancel acme bob none 1 0 ")
	for _, text := range []string{"", other, strings.ToUpper(own), own[:63], own + "0", " " + own, own + "\n", own[:8], wantSum(own), "x"} {
		does(t, h, approve(9, "cy", 1, text), approve(9, "dee", 2, text), approve(4, "bob", 1, text))
	}
	does(t, h, approve(9, "cy", 3, own), approve(0, "cy", 3, other), approve(4, "dee", 2, own), approve(0, "dee", 1, own), approve(5, "dee", 1, own), approve(0, "cy", 1, own), approve(9, "cy", 1, other), approve(5, "cy", 1, own))
	got := does(t, h, approve(0, "eve", 1, own), approve(0, "cy", 1, own), approve(0, "dee", 1, own))
	if !slices.Equal(run(&got, 1).Approvals, []string{"cy", "dee", "eve"}) {
		t.Error(run(&got, 1).Approvals)
	}
	gone := does(t, h, "cancel acme dee prod 1 0 ")
	does(t, gone, approve(7, "cy", 1, own), approve(7, "cy", 1, other), approve(7, "dee", 1, other), "7: cancel acme dee prod 1 0 ", "7: cancel acme bob prod 1 0 ")
	both := does(t, h, "user acme ann - 0 0 bob approve plan")
	does(t, both, approve(4, "bob", 1, own), approve(9, "bob", 1, other), approve(0, "bob", 2, own))
}

// ReqStep: 10 whenever there is nothing to do, with a code as it was.
func TestHouseIdle(t *testing.T) {
	h := village(t, 1, 10)
	does(t, h, "10: "+step, "10: step acme ann prod 9 9 text", "3: step acme ann none 0 0 ")
	for _, stands := range []int{impl.RunDenied, impl.RunDone, impl.RunFailed, impl.RunCancelled, impl.RunStale} {
		got := changed(does(t, h, plans), func(h *impl.House) { run(h, 1).Stands = stands })
		does(t, got, "10: "+step)
	}
	waits := approved(t, does(t, h, plans), "prod", 1, "cy")
	going := does(t, waits, step)
	asks := does(t, going, step)
	for _, h := range []impl.House{waits, going, asks, does(t, h, plans)} {
		end := changed(h, func(h *impl.House) { prod(h).Version = impl.CapMaxTick })
		does(t, end, "10: "+step, "10: step acme - prod 0 1 ")
		near := changed(h, func(h *impl.House) {
			prod(h).Version = impl.CapMaxTick - 1
			run(h, 1).Version = impl.CapMaxTick - 1
		})
		code := "0: "
		if len(run(&h, 1).Approvals) == 0 {
			code = "10: "
		}
		does(t, near, code+step)
	}
	last := changed(asks, func(h *impl.House) { prod(h).Version = impl.CapMaxTick - 1 })
	if got := does(t, last, step, "10: "+step); prod(&got).Version != impl.CapMaxTick || run(&got, 1).Stands != impl.RunGoes || run(&got, 1).At != 1 {
		t.Errorf("%+v", run(&got, 1))
	}
}
