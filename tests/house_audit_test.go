package tests

import (
	"fmt"
	"slices"
	"strings"
	"testing"

	"loop.example/portreeve/impl"
)

// last is the last entry of an audit, without its sums.
func last(h impl.House) said {
	all := saidOf(h.Audit)
	return all[len(all)-1]
}

// An entry of each kind without a code, none of a tick.
func TestHouseTold(t *testing.T) {
	h := does(t, village(t, 1, 10), plans, plans)
	sum := digest(h, "prod", 1)
	for line, want := range map[string]said{
		"tenant beta zoe - 0 0 ":                            {"beta", "tenant", "zoe - 0 0 e3b0c44298fc"},
		"tenant beta zoe dev 9999 999999 abc":               {"beta", "tenant", "zoe dev 9999 999999 ba7816bf8f01"},
		"user acme ann - 0 0 bob plan write":                {"acme", "user", "ann - 0 0 71b0d8bb8516"},
		"user acme ann prod 3 4 cy approve":                 {"acme", "user", "ann prod 3 4 6483e3027478"},
		"space acme ann dev 7 110 ":                         {"acme", "space", "ann dev 7 110 e3b0c44298fc"},
		"conf acme bob prod 0 0 ":                           {"acme", "conf", "bob prod 0 0 e3b0c44298fc"},
		"conf acme bob prod 0 0 " + manyConf(10):            {"acme", "conf", "bob prod 0 0 " + wantSum(manyConf(10))[:12]},
		"policy acme ann prod 0 0 deny X if act create":     {},
		"policy acme ann prod 1 2 deny X if act delete X\n": {"acme", "policy", "ann prod 1 2 ffea99973cb2"},
		"plan acme dee prod 0 0 abc":                        {"acme", "plan", "dee prod 0 0 ba7816bf8f01"},
		"approve acme cy prod 1 0 " + sum:                   {"acme", "approve", "cy prod 1 0 " + wantSum(sum)[:12]},
		"cancel acme dee prod 2 0 ":                         {"acme", "cancel", "dee prod 2 0 e3b0c44298fc"},
	} {
		if want.what == "" {
			line, want = "2: "+line, said{"acme", "refuse", "ann prod 0 0 " + wantSum("deny X if act create")[:12] + " policy 2"}
		}
		got := does(t, h, line)
		if len(got.Audit) != len(h.Audit)+1 || last(got) != want || !slices.Equal(got.Audit[:len(h.Audit)], h.Audit) {
			t.Errorf("%q is told as %v", line, last(got))
		}
	}
	ready := approved(t, h, "prod", 1, "cy")
	for line, want := range map[string]string{step: "- prod 0 0 e3b0c44298fc", "step acme cy prod 5 6 abc": "cy prod 5 6 ba7816bf8f01", "step acme nobody prod 0 0  ": "nobody prod 0 0 " + wantSum(" ")[:12]} {
		if got := does(t, ready, line); last(got) != (said{"acme", "step", want}) {
			t.Errorf("%q is told as %v", line, last(got))
		}
	}
	for _, line := range []string{tick, "tick acme ann prod 1 2 text", "tick nobody - - 0 0 "} {
		if got := does(t, h, line); !alike(got.Audit, h.Audit) || got.Now != h.Now+1 {
			t.Errorf("%q is told as %v", line, last(got))
		}
	}
}

// An entry of each code that has one, with the kind and the code behind the detail.
func TestHouseRefused(t *testing.T) {
	h := does(t, village(t, 1, 2), plans, "policy acme ann prod 0 0 ", "space acme ann dev 0 310 ")
	sum := digest(h, "prod", 1)
	for line, want := range map[string]string{
		"2: user acme ann - 0 0 ":                        "ann - 0 0 e3b0c44298fc user 2",
		"6: user acme ann - 0 0 zoe":                     "ann - 0 0 " + wantSum("zoe")[:12] + " user 6",
		"4: user acme - - 0 0 abc":                       "- - 0 0 ba7816bf8f01 user 4",
		"2: space acme ann - 0 999999 ":                  "ann - 0 999999 e3b0c44298fc space 2",
		"5: space acme ann dev 9999 0 abc":               "ann dev 9999 0 ba7816bf8f01 space 5",
		"6: space acme ann test 0 0 ":                    "ann test 0 0 e3b0c44298fc space 6",
		"4: space acme bob test 0 0 ":                    "bob test 0 0 e3b0c44298fc space 4",
		"3: conf acme bob test 0 0 ":                     "bob test 0 0 e3b0c44298fc conf 3",
		"3: conf acme bob - 0 0 ":                        "bob - 0 0 e3b0c44298fc conf 3",
		"2: conf acme bob prod 0 0 abc":                  "bob prod 0 0 ba7816bf8f01 conf 2",
		"4: conf acme ann prod 0 0 abc":                  "ann prod 0 0 ba7816bf8f01 conf 4",
		"2: policy acme ann prod 0 0 abc":                "ann prod 0 0 ba7816bf8f01 policy 2",
		"4: plan acme nobody prod 0 0 ":                  "nobody prod 0 0 e3b0c44298fc plan 4",
		"3: plan acme bob test 0 0 ":                     "bob test 0 0 e3b0c44298fc plan 3",
		"3: approve acme cy prod 2 0 abc":                "cy prod 2 0 ba7816bf8f01 approve 3",
		"9: approve acme cy prod 1 0 abc":                "cy prod 1 0 ba7816bf8f01 approve 9",
		"4: approve acme bob prod 1 0 " + sum:            "bob prod 1 0 " + wantSum(sum)[:12] + " approve 4",
		"3: cancel acme bob prod 0 0 ":                   "bob prod 0 0 e3b0c44298fc cancel 3",
		"10: step acme - prod 0 0 ":                      "- prod 0 0 e3b0c44298fc step 10",
		"10: step acme - dev 0 999999 ":                  "- dev 0 999999 e3b0c44298fc step 10",
		"3: step acme - test 0 0 ":                       "- test 0 0 e3b0c44298fc step 3",
		"2: conf acme bob prod 0 0 " + long1200():        "bob prod 0 0 " + wantSum(long1200())[:12] + " conf 2",
		"2: user acme ann aaaaaaa 9999 999999 a  write ": "ann aaaaaaa 9999 999999 " + wantSum("a  write ")[:12] + " user 2",
	} {
		checkRefused(t, h, line, want)
	}
	checkRefused(t, does(t, h, "conf acme bob prod 0 0 "+manyConf(3)), "8: "+plans, "bob prod 0 0 e3b0c44298fc plan 8")
	again := approved(t, h, "prod", 1, "cy")
	checkRefused(t, again, "5: approve acme cy prod 1 0 "+sum, "cy prod 1 0 "+wantSum(sum)[:12]+" approve 5")
	gone := does(t, h, "cancel acme bob prod 1 0 ")
	checkRefused(t, gone, "7: approve acme cy prod 1 0 "+sum, "cy prod 1 0 "+wantSum(sum)[:12]+" approve 7")
	checkRefused(t, gone, "7: cancel acme dee prod 1 0 ", "dee prod 1 0 e3b0c44298fc cancel 7")
	end := at(h, impl.CapMaxTick)
	checkRefused(t, end, "6: tick acme - - 0 0 ", "- - 0 0 e3b0c44298fc tick 6")
	checkRefused(t, end, "6: tick acme zoe dev 1 2 abc", "zoe dev 1 2 ba7816bf8f01 tick 6")
}

func long1200() string { return strings.Repeat("x ", 600) }

func checkRefused(t *testing.T, h impl.House, line, want string) {
	t.Helper()
	got := does(t, h, line)
	if len(got.Audit) != len(h.Audit)+1 || last(got) != (said{"acme", "refuse", want}) || !slices.Equal(got.Audit[:len(h.Audit)], h.Audit) {
		t.Errorf("%q is told as %v", line, last(got))
	}
	got.Audit = h.Audit
	if !alike(got, h) {
		t.Errorf("%q: more than the audit is changed", line)
	}
}

// No entry: of what is no request, of ReqTenant, of a tenant that is not there, of a full audit, of a house that is not ok.
func TestHouseUntold(t *testing.T) {
	h := village(t, 1, 10)
	three := does(t, h, "tenant beta ann - 0 0 ", "tenant gamma ann - 0 0 ")
	checkUntold := func(h impl.House, lines ...string) {
		t.Helper()
		for _, line := range lines {
			if got := does(t, h, line); !alike(got, h) {
				t.Errorf("%q changes something: %v", line, last(got))
			}
		}
	}
	checkUntold(three, "2: tenant - ann - 0 0 ", "2: tenant acme - - 0 0 ", "5: tenant acme ann - 0 0 ", "5: tenant acme ann prod 1 0 abc", "6: tenant delta ann - 0 0 ")
	for _, kind := range []string{"user", "space", "conf", "policy", "plan", "approve", "cancel", "step"} {
		checkUntold(h, "3: "+kind+" nobody ann prod 1 0 ", "3: "+kind+" - ann prod 1 0 ", "3: "+kind+" beta ann - 0 0 x")
		checkUntold(full(h), "11: "+kind+" acme ann prod 1 0 ", "11: "+kind+" nobody ann prod 1 0 ", "11: "+kind+" - - - 0 0 ")
	}
	checkUntold(full(h), "11: tenant acme ann - 0 0 ", "11: tenant beta ann - 0 0 ", "11: tenant - - - 0 0 ")
	end := at(h, impl.CapMaxTick)
	checkUntold(end, "6: "+tick, "6: tick beta ann - 0 0 ")
	checkUntold(full(end), "6: "+tick, "6: tick acme ann - 0 0 ", "6: tick beta ann - 0 0 ")
	for _, r := range badReqs() {
		if got := asked(t, h, r, 2); !alike(got, h) {
			t.Errorf("%.60q is told as %v", reqLine(r), last(got))
		}
		r.Tenant = "acme"
		if !modelReq(r) {
			asked(t, h, r, 2)
		}
	}
}

// The last entry that there is room for, with a code and without.
func TestHouseRoom(t *testing.T) {
	whole := full(village(t, 1, 10))
	for _, line := range []string{"conf acme bob prod 0 0 ", "2: conf acme bob prod 0 0 x", "tenant beta ann - 0 0 ", "4: plan acme nobody prod 0 0 ", "10: " + step, plans} {
		h := changed(whole, func(h *impl.House) { h.Audit = h.Audit[:199] })
		got := does(t, h, line)
		if len(got.Audit) != 200 || !impl.AuditOk(got.Audit) {
			t.Errorf("%q: %d entries", line, len(got.Audit))
		}
		does(t, got, "11: conf acme bob prod 0 0 ", "11: conf nobody bob prod 0 0 ", "11: tenant gamma ann - 0 0 ", tick, "tick acme ann - 0 0 ", "11: "+step)
	}
	end := at(changed(whole, func(h *impl.House) { h.Audit = h.Audit[:199] }), impl.CapMaxTick)
	if got := does(t, end, "6: tick acme - - 0 0 ", "6: tick acme - - 0 0 "); len(got.Audit) != 200 {
		t.Errorf("%d entries", len(got.Audit))
	}
}

// A story up to the end of the audit: each entry once, in its place, and each tenant's own.
func TestHouseStory(t *testing.T) {
	h := does(t, impl.HouseNew(someKey), "tenant acme ann - 0 0 ", "tenant beta ann - 0 0 ")
	var told []said
	for i := 0; len(h.Audit) < impl.AuditMaxEntries; i++ {
		name := []string{"acme", "beta"}[i%3%2]
		told = append(told, said{name, "user", fmt.Sprintf("ann - %d 0 %s", i, wantSum("bob")[:12])})
		h = does(t, h, fmt.Sprintf("user %s ann - %d 0 bob", name, i))
	}
	if !slices.Equal(saidOf(h.Audit)[2:], told) {
		t.Error("the audit is another one")
	}
	for _, name := range []string{"acme", "beta"} {
		text := "tenant " + name + "\nuser ann owner\nuser bob\ntenant ann - 0 0 e3b0c44298fc\n"
		for _, s := range told {
			if s.tenant == name {
				text += s.what + " " + s.detail + "\n"
			}
		}
		if impl.HouseView(h, name) != text {
			t.Errorf("%s sees\n%s", name, impl.HouseView(h, name))
		}
	}
	does(t, h, "11: user acme ann - 0 0 bob")
}
