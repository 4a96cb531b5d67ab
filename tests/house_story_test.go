package tests

import (
	"fmt"
	"math/rand"
	"slices"
	"strings"
	"testing"

	"loop.example/portreeve/impl"
)

// HouseView: the example of the document, as far as it is of a house.
func TestHouseExample(t *testing.T) {
	h := does(t, impl.HouseNew("any key"),
		"tenant acme ann - 0 0 ", "user acme ann - 0 0 bob plan write", "user acme ann - 0 0 cy approve", "space acme ann prod 0 110 ",
		"conf acme bob prod 0 0 thing net.b\n  zone \"eu\"\nend\nthing vm.a\n  link @net.b.id\n  size 2\nend\n", "policy acme ann prod 0 0 deny X if act delete X\n", plans,
		"10: "+step, "approve acme cy prod 1 0 51fafc14534f4071cd1debc854b3e002f2e07c89d7fe752fc0bdbc30fb9ad594", step, step, step, step, step, "conf acme bob prod 0 0 ", plans)
	want := `tenant acme
user ann owner
user bob plan write
user cy approve
space prod, 1 approve, 10 acts, version 2
net.b {id:"i-e7068b",zone:"eu"}
vm.a {id:"i-618a41",link:"i-e7068b",size:2} net.b
run 1 by bob done 2 of 2, approved by 1, 51fafc14
run 2 by bob denied 0 of 2, approved by 0, 93d8bb5d
tenant ann - 0 0 e3b0c44298fc
user ann - 0 0 71b0d8bb8516
user ann - 0 0 6483e3027478
space ann prod 0 110 e3b0c44298fc
conf bob prod 0 0 3e88b395d2c4
policy ann prod 0 0 ffea99973cb2
plan bob prod 0 0 e3b0c44298fc
refuse - prod 0 0 e3b0c44298fc step 10
approve cy prod 1 0 239593ee6a95
step - prod 0 0 e3b0c44298fc
step - prod 0 0 e3b0c44298fc
step - prod 0 0 e3b0c44298fc
step - prod 0 0 e3b0c44298fc
step - prod 0 0 e3b0c44298fc
conf bob prod 0 0 e3b0c44298fc
plan bob prod 0 0 e3b0c44298fc
`
	if got := impl.HouseView(h, "acme"); got != want {
		t.Errorf("acme sees\n%s", got)
	}
}

// HouseView: users without roles, two spaces, runs of each kind, and lines of the tenant alone.
func TestHouseView(t *testing.T) {
	h := does(t, town(t), "user acme ann - 0 0 eve", "space acme ann dev 0 0 ", "5: tenant acme ann - 0 0 ", "4: plan acme zoe prod 0 0 ")
	view := impl.HouseView(h, "acme")
	for _, part := range []string{
		"tenant acme\nuser ann owner\nuser bob plan write\nuser cy approve\nuser dee approve plan\nuser eve\nspace dev, 0 approve, 0 acts, version 0\nspace prod, 1 approve, 10 acts, version 2\nvm.a {id:",
		"} vm.a\nrun 1 by bob done 2 of 2, approved by 1, " + digest(h, "prod", 1)[:8] + "\nrun 2 by bob stale 0 of 2, approved by 0, " + digest(h, "prod", 2)[:8] + "\nrun 3 by bob failed 0 of 2, approved by 2, " + digest(h, "prod", 3)[:8] + "\n",
		"\nrun 4 by bob cancelled 0 of 2, approved by 0, ", "\nrun 5 by bob denied 0 of 2, approved by 0, ", "\nrun 6 by bob goes 0 of 2, approved by 1, ", "\nrun 7 by bob waits 0 of 2, approved by 2, " + digest(h, "prod", 7)[:8] + "\ntenant ann - 0 0 e3b0c44298fc\n",
	} {
		if !strings.Contains(view, part) {
			t.Errorf("%q is not in\n%s", part, view)
		}
	}
	if view != modelView(h, "acme") || !strings.HasSuffix(view, "refuse zoe prod 0 0 e3b0c44298fc plan 4\n") || strings.Contains(view, "beta") || strings.Contains(view, "zoe dev") {
		t.Errorf("acme sees\n%s", view)
	}
	want := "tenant beta\nuser ann owner\nuser zoe approve owner plan write\nspace dev, 0 approve, 3 acts, version 0\ntenant ann - 0 0 e3b0c44298fc\nuser ann - 0 0 " + wantSum("zoe approve owner plan write")[:12] + "\nspace zoe dev 0 3 e3b0c44298fc\nrefuse ann dev 0 0 e3b0c44298fc conf 4\nconf zoe dev 0 0 " + wantSum(confTwo)[:12] + "\n"
	if got := impl.HouseView(h, "beta"); got != want {
		t.Errorf("beta sees\n%s", got)
	}
	for _, name := range []string{"", "-", "gamma", "acm", "acmes", "Acme", "acme ", "bet"} {
		if impl.HouseView(h, name) != "" {
			t.Errorf("%q sees something", name)
		}
	}
	other := changed(h, func(h *impl.House) { h.Audit = audit(said{"gamma", "plan", "x"}, said{"acme", "odd", ""}) })
	if got := impl.HouseView(other, "acme"); !strings.HasSuffix(got, "\nodd \n") || impl.HouseView(other, "gamma") != "" {
		t.Errorf("acme sees\n%s", got)
	}
	if impl.HouseView(changed(h, func(h *impl.House) { h.Now = -1 }), "acme") != "" {
		t.Error("a house that is not ok is seen")
	}
}

// P52: a tick changes the time alone, by one.
func TestHouseTick(t *testing.T) {
	for _, base := range []impl.House{impl.HouseNew(someKey), town(t), full(town(t)), goes(t)} {
		for _, now := range []int{0, 1, 20, 21, impl.CapMaxTick - 1} {
			h := at(base, now)
			for _, line := range []string{tick, "tick acme ann prod 1 2 text", "tick acme nobody none 0 0 "} {
				if got := does(t, h, line); !alike(got, at(base, now+1)) {
					t.Errorf("%q at %d changes more than the time", line, now)
				}
			}
		}
		does(t, at(base, impl.CapMaxTick-1), tick, "6: "+tick)
		if end := at(base, impl.CapMaxTick); !alike(does(t, end, "6: "+tick), end) {
			t.Error("past the last tick something is changed")
		}
	}
}

// P54: a plan adds one run, and changes nothing else.
func TestHousePlan(t *testing.T) {
	h := town(t)
	for policy, stands := range map[string]int{"": impl.RunWaits, "deny vm.a\n": impl.RunDenied} {
		before := does(t, h, "policy acme ann prod 0 0 "+policy, "conf acme bob prod 0 0 "+confOther)
		got := does(t, before, "plan acme dee prod 3 4 text")
		r := prod(&got).Runs[7]
		list, _ := impl.ConfParse(confOther)
		acts, _ := impl.PlanMake(list, nil, prod(&before).State)
		want := impl.Run{Id: 8, By: "dee", Conf: confOther, Acts: acts, Digest: impl.PlanDigest(acts), Version: 2, Stands: stands}
		if !alike(r, want) || len(acts) != 3 {
			t.Errorf("%+v", r)
		}
		prod(&got).Runs = prod(&got).Runs[:7]
		got.Audit = before.Audit
		if !alike(got, before) {
			t.Error("something else is changed")
		}
	}
}

// teller makes requests by chance, of a house as it stands.
type teller struct {
	*rand.Rand
	names []string
}

func (r *teller) pick(list ...string) string { return list[r.Intn(len(list))] }

// next is a request of a tenant; most of them are such as are let.
func (r *teller) next(h impl.House, tenant string) impl.Req {
	space := r.pick("prod", "prod", "prod", "prod", "prod", "prod", "prod", "dev", "none", "-")
	if r.Intn(2) == 0 {
		return r.forth(h, tenant)
	}
	kind := r.pick(kindWords[1:]...)
	id, num, text := r.Intn(10), 0, ""
	if s := spaceOf(&h, tenant, space); s != nil && r.Intn(6) > 0 {
		id = max(1, len(s.Runs)-r.Intn(3))
	}
	user := map[string]string{"user": "ann", "space": "ann", "conf": "bob", "policy": "ann", "plan": "dee", "approve": "cy", "cancel": "bob"}[kind]
	if user == "" || r.Intn(4) == 0 {
		user = r.pick("ann", "bob", "cy", "dee", "eve", "zoe", "-")
	}
	switch kind {
	case "user":
		text = r.pick("ann owner", "bob plan write", "cy approve", "dee approve plan", "dee approve plan", "eve approve", "cy", "dee plan", "x", "bob write plan", "ann  owner", "eve owner plan")
	case "space":
		num = []int{0, 110, 210, 3, 311, 400, 310}[r.Intn(7)]
	case "conf":
		text = r.pick(impl.ConfWrite(anyConf(r.Rand)), impl.ConfWrite(anyConf(r.Rand)), impl.ConfWrite(anyConf(r.Rand)), confTwo, confMore, confOther, "what", "", manyConf(r.Intn(11)))
	case "policy":
		text = r.pick("", "", "deny X if act delete X\n", "deny X if act replace X\n", "deny X if attr X zone us\n", "deny X\n", "ok net.a\ndeny X if act create X and not ok X\n", crowd)
	case "approve":
		text = r.sum(h, tenant, space, id)
	case "step":
		num = max(0, r.Intn(4)-2)
	}
	req, _ := modelReqRead(fmt.Sprintf("%s %s %s %s %d %d %s", kind, tenant, user, space, id, num, text))
	return req
}

// sum is the digest of some run.
func (r *teller) sum(h impl.House, tenant, space string, id int) string {
	s := spaceOf(&h, tenant, space)
	if s == nil || id < 1 || id > len(s.Runs) || r.Intn(8) == 0 {
		return r.pick("", "x", wantSum("x"))
	}
	return s.Runs[id-1].Digest
}

// forth is a request by which the space prod of a tenant comes on.
func (r *teller) forth(h impl.House, tenant string) impl.Req {
	s := spaceOf(&h, tenant, "prod")
	line := ""
	switch {
	case tenantOf(&h, tenant) == nil:
		line = "tenant " + tenant + " ann - 0 0 "
	case len(tenantOf(&h, tenant).Users) < 4:
		line = r.pick(begun(tenant)[1:5]...)
	case s == nil:
		line = "space " + tenant + " ann prod 0 " + r.pick("110 ", "210 ", "10 ", "310 ")
	case modelTurn(s) == nil:
		line = r.pick("plan "+tenant+" bob prod 0 0 ", "conf "+tenant+" bob prod 0 0 "+impl.ConfWrite(anyConf(r.Rand)))
	case modelTurn(s).Stands == impl.RunWaits && len(modelTurn(s).Approvals) < s.Need:
		line = fmt.Sprintf("approve %s %s prod %d 0 %s", tenant, r.pick("cy", "dee", "eve"), modelTurn(s).Id, r.sum(h, tenant, "prod", modelTurn(s).Id))
	default:
		line = "step " + tenant + " - prod 0 " + r.pick("0 ", "0 ", "0 ", "0 ", "0 ", "0 ", "0 ", "0 ", "1 ")
	}
	req, ok := modelReqRead(line)
	if !ok {
		return impl.Req{Kind: impl.ReqTick}
	}
	return req
}

// begun is the requests with which a tenant begins.
func begun(tenant string) []string {
	var all []string
	for _, line := range []string{"tenant T ann - 0 0 ", "user T ann - 0 0 bob plan write", "user T ann - 0 0 cy approve", "user T ann - 0 0 dee approve plan", "user T ann - 0 0 eve approve", "space T ann prod 0 210 "} {
		all = append(all, strings.ReplaceAll(line, "T", tenant))
	}
	return all
}

// P45, P46, P48, P54, P77, P78: stories by chance, against the model; and what holds of each request by itself.
func TestHouseAny(t *testing.T) {
	r := &teller{Rand: rand.New(rand.NewSource(132)), names: []string{"acme", "acme", "acme", "acme", "acme", "beta", "beta", "gamma", "delta"}}
	codes, stands, asks := map[int]int{}, map[int]int{}, 0
	for i := range 16 {
		h := does(t, impl.HouseNew(r.pick("", someKey)), begun("acme")...)
		if i%4 == 0 {
			h.Audit = audit(slices.Repeat([]said{{"beta", "plan", "x"}}, 150)...)
		}
		for range 130 {
			req := r.next(h, r.pick(r.names...))
			_, code := impl.HouseDo(h, req)
			got := asked(t, h, req, code)
			codes[code]++
			checkLeft(t, h, got, req, code)
			for _, name := range []string{"acme", "beta"}[:r.Intn(3)] {
				if impl.HouseView(got, name) != modelView(got, name) {
					t.Fatalf("%s sees\n%s", name, impl.HouseView(got, name))
				}
				call, ok := impl.HouseCall(got, name, "prod")
				want, wantOk := modelCall(got, name, "prod")
				if ok != wantOk || !alike(call, want) {
					t.Fatalf("%s asks %+v, not %+v", name, call, want)
				}
				if ok {
					asks++
				}
			}
			if !impl.HouseSafe(got) {
				t.Fatalf("%.80q: not safe", reqLine(req))
			}
			h = got
			if len(h.Audit) == 200 && r.Intn(5) == 0 {
				break
			}
		}
		for _, tenant := range h.Tenants {
			for _, s := range tenant.Spaces {
				for _, run := range s.Runs {
					stands[run.Stands]++
				}
			}
		}
	}
	for code := 2; code <= 11; code++ {
		if codes[code] == 0 {
			t.Errorf("the code %d never came: %v", code, codes)
		}
	}
	if len(stands) != 7 || asks < 50 || codes[0] < 500 {
		t.Error(codes, stands, asks)
	}
}

// checkLeft asks of a house behind a request what the promises say of it.
func checkLeft(t *testing.T, before, after impl.House, req impl.Req, code int) {
	t.Helper()
	if more := len(after.Audit) - len(before.Audit); more < 0 || more > 1 || !slices.Equal(after.Audit[:len(before.Audit)], before.Audit) {
		t.Fatalf("%.80q: the audit is another one", reqLine(req))
	}
	if code != 0 {
		after.Audit = before.Audit
		if !alike(before, after) {
			t.Fatalf("%.80q: %d, and something is changed", reqLine(req), code)
		}
		return
	}
	for _, tenant := range after.Tenants {
		for _, s := range tenant.Spaces {
			old := spaceOf(&before, tenant.Name, s.Name)
			if old == nil {
				continue
			}
			for i, r := range s.Runs {
				if i == len(old.Runs) {
					if req.Kind != impl.ReqPlan || len(r.Acts) > s.Quota || len(r.Approvals) > 0 || r.Stands > impl.RunDenied {
						t.Fatalf("%.80q: %+v", reqLine(req), r)
					}
					continue
				}
				checkRun(t, tenant, s, old.Runs[i], r)
			}
		}
	}
}

// checkRun asks of a run, as it was and is, what the promises say of it.
func checkRun(t *testing.T, tenant impl.Tenant, s impl.Space, old, r impl.Run) {
	t.Helper()
	if old.Stands != impl.RunWaits && old.Stands != impl.RunGoes && !alike(old, r) {
		t.Fatalf("a run that was over is another one: %+v", r)
	}
	if old.Stands != impl.RunWaits || r.Stands != impl.RunGoes {
		return
	}
	count := 0
	for _, name := range r.Approvals {
		if impl.TenantMay(tenant.Users, name, "approve") && name != r.By {
			count++
		}
	}
	rules, _ := impl.PolParse(s.Policy)
	denied, ok := impl.PolDenies(rules, r.Acts)
	if count < s.Need || r.Digest != impl.PlanDigest(r.Acts) || !ok || len(denied) > 0 || r.Version != s.Version {
		t.Fatalf("it goes: %+v", r)
	}
}

// P47, P51: a tenant's requests come to the same with and without those of another one between.
func TestHouseApart(t *testing.T) {
	r := &teller{Rand: rand.New(rand.NewSource(133))}
	let := 0
	for range 12 {
		alone := does(t, impl.HouseNew(someKey), begun("acme")...)
		both := alone
		other := begun("beta")
		for range 80 {
			for range r.Intn(3) {
				req := r.next(both, "beta")
				if len(other) > 0 {
					req, _ = modelReqRead(other[0])
					other = other[1:]
				}
				if req.Kind == impl.ReqTick || len(both.Audit) > 150 {
					continue
				}
				seen, code := impl.HouseView(both, "acme"), 0
				was := twin(*tenantOf(&both, "acme"))
				both, code = impl.HouseDo(both, req)
				if impl.HouseView(both, "acme") != seen || !alike(*tenantOf(&both, "acme"), was) {
					t.Fatalf("%.80q: %d, and acme sees it", reqLine(req), code)
				}
			}
			req := r.next(alone, "acme")
			a, codeA := impl.HouseDo(alone, req)
			b, codeB := impl.HouseDo(both, req)
			if len(b.Audit) == 200 {
				break
			}
			if codeA != codeB || impl.HouseView(a, "acme") != impl.HouseView(b, "acme") || !alike(*tenantOf(&a, "acme"), *tenantOf(&b, "acme")) {
				t.Fatalf("%.80q: %d and %d", reqLine(req), codeA, codeB)
			}
			if codeA == 0 {
				let++
			}
			alone, both = a, b
		}
	}
	if let < 300 {
		t.Error(let, "were let")
	}
}

// P47, P51: two tenants with all the same names.
func TestHouseTwins(t *testing.T) {
	h := town(t)
	one := h.Tenants[0]
	both := changed(h, func(h *impl.House) { h.Tenants[1].Users, h.Tenants[1].Spaces = twin(one.Users), nil })
	both = does(t, both, "space beta ann prod 0 10 ", "conf beta bob prod 0 0 "+confTwo, "plan beta bob prod 0 0 ", "step beta - prod 0 0 ", "step beta - prod 0 0 ", "7: cancel beta bob prod 1 0 ", "step beta - prod 0 0 ", "user beta ann - 0 0 cy", "policy beta ann prod 0 0 deny vm.a\n")
	if !alike(both.Tenants[0], one) || spaceOf(&both, "beta", "prod").Runs[0].At != 1 {
		t.Error("acme is touched")
	}
	call, ok := impl.HouseCall(both, "acme", "prod")
	if want, _ := impl.HouseCall(h, "acme", "prod"); !ok || !alike(call, want) {
		t.Errorf("acme asks %+v", call)
	}
	if _, ok := impl.HouseCall(both, "beta", "prod"); ok {
		t.Error("beta asks")
	}
	begins := does(t, h, "tenant gamma ann - 0 0 ")
	for _, name := range []string{"acme", "beta"} {
		if impl.HouseView(begins, name) != impl.HouseView(h, name) || !alike(*tenantOf(&begins, name), *tenantOf(&h, name)) {
			t.Errorf("%s sees another one begin", name)
		}
	}
}
