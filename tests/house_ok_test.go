package tests

import (
	"fmt"
	"math/rand"
	"slices"
	"strings"
	"testing"

	"loop.example/portreeve/impl"
)

// spoilt is what is done to a house, and whether it is ok then.
type spoilt struct {
	what string
	ok   bool
	do   func(h *impl.House)
}

// prod is the space of town's acme, run a run of it, from 1 on.
func prod(h *impl.House) *impl.Space { return spaceOf(h, "acme", "prod") }

func run(h *impl.House, id int) *impl.Run { return &prod(h).Runs[id-1] }

// resealed is a run's credential with another right seal.
func resealed(h *impl.House, id int, change func(c *impl.Cap)) {
	c := &run(h, id).Cap
	change(c)
	c.Seal = modelSeal(h.Key, *c)
}

// spoiltHouses is what can be done to the parts of a house that are not of a space.
func spoiltHouses() []spoilt {
	all := []spoilt{
		{"nothing", true, func(h *impl.House) {}},
		{"now 0", true, func(h *impl.House) { h.Now = 0 }},
		{"now -1", false, func(h *impl.House) { h.Now = -1 }},
		{"now CapMaxTick", true, func(h *impl.House) { h.Now = impl.CapMaxTick }},
		{"now CapMaxTick + 1", false, func(h *impl.House) { h.Now = impl.CapMaxTick + 1 }},
		{"a tenant more", true, func(h *impl.House) { h.Tenants = append(h.Tenants, impl.Tenant{Name: "cat"}) }},
		{"tenants too many", false, func(h *impl.House) { h.Tenants = append(h.Tenants, impl.Tenant{Name: "cat"}, impl.Tenant{Name: "dog"}) }},
		{"tenants out of order", false, func(h *impl.House) { h.Tenants = append(h.Tenants, impl.Tenant{Name: "abba"}) }},
		{"tenants turned", false, func(h *impl.House) { slices.Reverse(h.Tenants) }},
		{"a tenant twice", false, func(h *impl.House) { h.Tenants = append(h.Tenants, impl.Tenant{Name: "beta"}) }},
		{"no tenants", true, func(h *impl.House) { h.Tenants = nil }},
		{"no key, no tenants", true, func(h *impl.House) { h.Key, h.Tenants = "", nil }},
		{"another key", false, func(h *impl.House) { h.Key += "x" }},
		{"users too many", false, func(h *impl.House) { h.Tenants[1].Users = users("a", "b", "c", "d", "e", "f") }},
		{"users of all room", true, func(h *impl.House) { h.Tenants[1].Users = users("a", "b", "c", "d", "e") }},
		{"users turned", false, func(h *impl.House) { slices.Reverse(h.Tenants[1].Users) }},
		{"a user twice", false, func(h *impl.House) { h.Tenants[1].Users = users("ann", "ann") }},
		{"no users", true, func(h *impl.House) { h.Tenants[1].Users = nil }},
		{"a user's name", false, func(h *impl.House) { h.Tenants[1].Users[0].Name = "Ann" }},
		{"a role", false, func(h *impl.House) { h.Tenants[1].Users[0].Roles[0] = "king" }},
		{"roles turned", false, func(h *impl.House) { slices.Reverse(h.Tenants[1].Users[1].Roles) }},
		{"no space", true, func(h *impl.House) { h.Tenants[1].Spaces = nil }},
		{"a space more", true, func(h *impl.House) { h.Tenants[1].Spaces = append(h.Tenants[1].Spaces, impl.Space{Name: "prod"}) }},
		{"spaces too many", false, func(h *impl.House) {
			h.Tenants[1].Spaces = append(h.Tenants[1].Spaces, impl.Space{Name: "prod"}, impl.Space{Name: "test"})
		}},
		{"spaces out of order", false, func(h *impl.House) { h.Tenants[1].Spaces = append(h.Tenants[1].Spaces, impl.Space{Name: "a"}) }},
		{"a space twice", false, func(h *impl.House) { h.Tenants[1].Spaces = append(h.Tenants[1].Spaces, impl.Space{Name: "dev"}) }},
		{"the audit's last left out", true, func(h *impl.House) { h.Audit = h.Audit[:len(h.Audit)-1] }},
		{"the audit's first left out", false, func(h *impl.House) { h.Audit = h.Audit[1:] }},
		{"an audit's detail", false, func(h *impl.House) { h.Audit[3].Detail += "x" }},
		{"an audit's sum", false, func(h *impl.House) { h.Audit[0].Sum = h.Audit[1].Sum }},
		{"no audit", true, func(h *impl.House) { h.Audit = nil }},
		{"an audit of all room", true, func(h *impl.House) { h.Audit = longAudit(200) }},
		{"an audit too long", false, func(h *impl.House) { h.Audit = longAudit(201) }},
	}
	for _, name := range []string{"", "-", "Beta", "1b", "b-", "bbbbbbbb", "b b", "b\n", "é"} {
		all = append(all,
			spoilt{fmt.Sprintf("a tenant %q", name), false, func(h *impl.House) { h.Tenants[1].Name = name }},
			spoilt{fmt.Sprintf("only a tenant %q", name), false, func(h *impl.House) { h.Tenants = []impl.Tenant{{Name: name}} }},
			spoilt{fmt.Sprintf("a space %q", name), false, func(h *impl.House) { h.Tenants[1].Spaces[0].Name = name }},
		)
	}
	return all
}

// spoiltSpaces is what can be done to a space of town.
func spoiltSpaces() []spoilt {
	all := []spoilt{
		{"an empty conf", true, func(h *impl.House) { prod(h).Conf = "" }},
		{"another conf", true, func(h *impl.House) { prod(h).Conf = confOther }},
		{"a conf with a fault", false, func(h *impl.House) { prod(h).Conf = "what" }},
		{"a conf that is too long", false, func(h *impl.House) { prod(h).Conf = strings.Repeat("\n", 1<<16) }},
		{"a conf with a ring", false, func(h *impl.House) { prod(h).Conf = "thing a.a\n  x @a.a.id\nend\n" }},
		{"a policy", true, func(h *impl.House) { prod(h).Policy = "deny X if act delete X\n" }},
		{"a policy with a fault", false, func(h *impl.House) { prod(h).Policy = "deny X\n" }},
		{"a policy without levels", false, func(h *impl.House) { prod(h).Policy = "odd if not odd\n" }},
		{"a state out of order", false, func(h *impl.House) { slices.Reverse(prod(h).State) }},
		{"no state", true, func(h *impl.House) { prod(h).State = nil }},
		{"a state without an id", false, func(h *impl.House) { prod(h).State[0].Attrs = object("") }},
		{"a state that is not known", false, func(h *impl.House) { prod(h).State[0].Attrs.Kids[0] = unknown() }},
		{"a run more", true, func(h *impl.House) {
			prod(h).Runs = append(prod(h).Runs, impl.Run{Id: 8, By: "bob", Digest: wantSum(""), Stands: impl.RunWaits})
		}},
		{"runs too many", false, func(h *impl.House) {
			prod(h).Runs = append(prod(h).Runs, impl.Run{Id: 8, By: "bob", Digest: wantSum(""), Stands: impl.RunWaits}, impl.Run{Id: 9, By: "bob", Digest: wantSum(""), Stands: impl.RunWaits})
		}},
		{"two runs that go", false, func(h *impl.House) {
			*run(h, 7) = *run(h, 6)
			run(h, 7).Id, run(h, 7).Intent = 7, ""
			resealed(h, 7, func(c *impl.Cap) { c.Run = 7 })
		}},
		{"another run that goes", true, func(h *impl.House) {
			*run(h, 7) = *run(h, 6)
			run(h, 7).Id, run(h, 7).Intent = 7, ""
			resealed(h, 7, func(c *impl.Cap) { c.Run = 7 })
			run(h, 6).Stands, run(h, 6).Intent = impl.RunFailed, ""
		}},
	}
	edges := []struct {
		what  string
		most  int
		place func(s *impl.Space) *int
	}{
		{"need", impl.TenantMaxNeed, func(s *impl.Space) *int { return &s.Need }},
		{"quota", impl.TenantMaxQuota, func(s *impl.Space) *int { return &s.Quota }},
		{"version", impl.CapMaxTick, func(s *impl.Space) *int { return &s.Version }},
	}
	for _, e := range edges {
		for _, n := range []int{-1 << 63, -1, 0, e.most, e.most + 1, 1<<63 - 1} {
			all = append(all, spoilt{fmt.Sprint(e.what, n), n >= 0 && n <= e.most, func(h *impl.House) { *e.place(&h.Tenants[1].Spaces[0]) = n }})
		}
	}
	return all
}

// spoiltRuns is what can be done to a run of town, however it stands.
func spoiltRuns() []spoilt {
	var all []spoilt
	for id := 1; id <= 7; id++ {
		add := func(what string, ok bool, do func(h *impl.House, r *impl.Run)) {
			all = append(all, spoilt{fmt.Sprintf("run %d: %s", id, what), ok, func(h *impl.House) { do(h, run(h, id)) }})
		}
		for _, n := range []int{-1, 0, id - 1, id + 1, 9} {
			add(fmt.Sprint("id ", n), false, func(h *impl.House, r *impl.Run) { r.Id = n })
		}
		for _, name := range []string{"", "Bob", "bobbobbo", "b b"} {
			add(fmt.Sprintf("by %q", name), false, func(h *impl.House, r *impl.Run) { r.By = name })
			add(fmt.Sprintf("approved by %q", name), false, func(h *impl.House, r *impl.Run) { r.Approvals = []string{name} })
		}
		add("by another one", true, func(h *impl.House, r *impl.Run) { r.By = "nobody" })
		add("by one who approves", false, func(h *impl.House, r *impl.Run) { r.By, r.Approvals = "cy", []string{"bob", "cy"} })
		add("another conf", true, func(h *impl.House, r *impl.Run) { r.Conf = "" })
		add("a conf with a fault", false, func(h *impl.House, r *impl.Run) { r.Conf = "what" })
		add("another digest", false, func(h *impl.House, r *impl.Run) { r.Digest = wantSum(r.Digest) })
		add("no digest", false, func(h *impl.House, r *impl.Run) { r.Digest = "" })
		add("a digest in capitals", false, func(h *impl.House, r *impl.Run) { r.Digest = strings.ToUpper(r.Digest) })
		add("an act that is none, no digest", false, func(h *impl.House, r *impl.Run) { r.Acts[len(r.Acts)-1].Kind, r.Digest = 5, "" })
		add("acts too long, no digest", false, func(h *impl.House, r *impl.Run) { r.Acts, r.Digest = slices.Repeat(r.Acts, 1000), "" })
		add("other acts", false, func(h *impl.House, r *impl.Run) { r.Acts[0].Id = "x.x" })
		add("other acts and their digest", true, func(h *impl.House, r *impl.Run) {
			r.Acts[0].Id = "x.x"
			r.Digest = wantSum(planText(r.Acts))
		})
		add("version -1", false, func(h *impl.House, r *impl.Run) { r.Version = -1 })
		add("the space's version", true, func(h *impl.House, r *impl.Run) { r.Version = 2 })
		add("a version above the space's", false, func(h *impl.House, r *impl.Run) { r.Version = 3 })
		add("at -1", false, func(h *impl.House, r *impl.Run) { r.At = -1 })
		add("past its acts", false, func(h *impl.House, r *impl.Run) { r.At = len(r.Acts) + 1 })
		add("approved by nobody", true, func(h *impl.House, r *impl.Run) { r.Approvals = nil })
		add("approved by others", true, func(h *impl.House, r *impl.Run) { r.Approvals = []string{"a", "b", "c", "d", "e", "f"} })
		add("approvals out of order", false, func(h *impl.House, r *impl.Run) { r.Approvals = []string{"dee", "cy"} })
		add("an approval twice", false, func(h *impl.House, r *impl.Run) { r.Approvals = []string{"cy", "cy"} })
		add("approved by who planned it", false, func(h *impl.House, r *impl.Run) { r.Approvals = []string{"ann", "bob", "cy"} })
		for _, n := range []int{-1, 0, 8, 1<<63 - 1} {
			add(fmt.Sprint("stands ", n), false, func(h *impl.House, r *impl.Run) { *r = *run(h, 1); r.Id, r.Stands = id, n })
		}
		add("nothing", false, func(h *impl.House, r *impl.Run) { *r = impl.Run{} })
	}
	return all
}

// spoiltStands is what can be done to a run of town that hangs on how it stands.
func spoiltStands() []spoilt {
	var all []spoilt
	add := func(what string, id int, ok bool, do func(h *impl.House, r *impl.Run)) {
		all = append(all, spoilt{fmt.Sprintf("run %d: %s", id, what), ok, func(h *impl.House) { do(h, run(h, id)) }})
	}
	for _, id := range []int{2, 5, 7} { // stale, denied, waits
		add("at 1", id, false, func(h *impl.House, r *impl.Run) { r.At = 1 })
		add("an intent", id, false, func(h *impl.House, r *impl.Run) { r.Intent = modelPath("acme", "prod", id, 0) })
		for what, change := range capChanges() {
			add("something of a credential: "+what, id, false, func(h *impl.House, r *impl.Run) { change(&r.Cap) })
		}
		add("an empty list of limits", id, true, func(h *impl.House, r *impl.Run) { r.Cap.Limits = []string{} })
		add("no acts", id, true, func(h *impl.House, r *impl.Run) { r.Acts, r.Digest = nil, wantSum("") })
	}
	for _, id := range []int{1, 3, 4} { // done, failed, cancelled
		add("at 0", id, true, func(h *impl.House, r *impl.Run) { r.At = 0 })
		add("at 1", id, true, func(h *impl.House, r *impl.Run) { r.At = 1 })
		add("at its end", id, true, func(h *impl.House, r *impl.Run) { r.At = len(r.Acts) })
		add("an intent", id, false, func(h *impl.House, r *impl.Run) { r.Intent = modelPath("acme", "prod", id, r.At) })
		for what, change := range capChanges() {
			add("another credential: "+what, id, true, func(h *impl.House, r *impl.Run) { change(&r.Cap) })
		}
		add("no credential", id, true, func(h *impl.House, r *impl.Run) { r.Cap = impl.Cap{} })
		add("no acts", id, true, func(h *impl.House, r *impl.Run) { r.Acts, r.At, r.Digest = nil, 0, wantSum("") })
	}
	add("no intent", 6, true, func(h *impl.House, r *impl.Run) { r.Intent = "" })
	add("no intent, at its last act", 6, true, func(h *impl.House, r *impl.Run) { r.Intent, r.At = "", len(r.Acts)-1 })
	add("at its last act", 6, true, func(h *impl.House, r *impl.Run) {
		r.At, r.Intent = len(r.Acts)-1, modelPath("acme", "prod", 6, len(r.Acts)-1)
	})
	add("at its end", 6, false, func(h *impl.House, r *impl.Run) { r.Intent, r.At = "", len(r.Acts) })
	add("at its end, with an intent", 6, false, func(h *impl.House, r *impl.Run) {
		r.At, r.Intent = len(r.Acts), modelPath("acme", "prod", 6, len(r.Acts))
	})
	add("no acts", 6, false, func(h *impl.House, r *impl.Run) { r.Acts, r.Intent, r.Digest = nil, "", wantSum("") })
	for _, key := range []string{"x", "acme/prod/6/1", "acme/prod/5/0", "acme/dev/6/0", "beta/prod/6/0", "acme/prod/6/00", "acme/prod/6/", "acme/prod/6/0/", "/acme/prod/6/0", "acme/prod/6/0 ", "Acme/prod/6/0"} {
		add("the intent "+key, 6, false, func(h *impl.House, r *impl.Run) { r.Intent = key })
	}
	for what, change := range capChanges() {
		add("another credential: "+what, 6, false, func(h *impl.House, r *impl.Run) { change(&r.Cap) })
	}
	add("no credential", 6, false, func(h *impl.House, r *impl.Run) { r.Cap = impl.Cap{} })
	add("another run's credential", 6, false, func(h *impl.House, r *impl.Run) { r.Cap = run(h, 1).Cap })
	for what, right := range map[string]bool{"from": true, "until": true, "limits": true, "limits of all room": true, "tenant": false, "space": false, "run": false, "from behind until": false, "a limit that is none": false, "limits too many": false, "no tenant": false} {
		add("another credential, sealed anew: "+what, 6, right, func(h *impl.House, r *impl.Run) { resealed(h, 6, capChanges()[what]) })
	}
	return all
}

// capChanges is what can be another one in a credential.
func capChanges() map[string]func(c *impl.Cap) {
	return map[string]func(c *impl.Cap){
		"from":                 func(c *impl.Cap) { c.From++ },
		"until":                func(c *impl.Cap) { c.Until++ },
		"limits":               func(c *impl.Cap) { c.Limits = []string{"only vm.a"} },
		"limits of all room":   func(c *impl.Cap) { c.Limits = slices.Repeat([]string{"until 7"}, 4) },
		"tenant":               func(c *impl.Cap) { c.Tenant = "beta" },
		"no tenant":            func(c *impl.Cap) { c.Tenant += "Ab" },
		"space":                func(c *impl.Cap) { c.Space = "dev" },
		"run":                  func(c *impl.Cap) { c.Run++ },
		"seal":                 func(c *impl.Cap) { c.Seal = wantSum(c.Seal) },
		"from behind until":    func(c *impl.Cap) { c.From = c.Until + 1 },
		"a limit that is none": func(c *impl.Cap) { c.Limits = []string{"always"} },
		"limits too many":      func(c *impl.Cap) { c.Limits = slices.Repeat([]string{"until 7"}, 5) },
	}
}

// P45, P48: a house that is spoiled in one place, and what all functions say of it.
func TestHouseOk(t *testing.T) {
	base := town(t)
	stands := []int{impl.RunDone, impl.RunStale, impl.RunFailed, impl.RunCancelled, impl.RunDenied, impl.RunGoes, impl.RunWaits}
	for i, want := range stands {
		if got := run(&base, i+1).Stands; got != want {
			t.Fatalf("run %d stands as %d", i+1, got)
		}
	}
	for _, x := range slices.Concat(spoiltHouses(), spoiltSpaces(), spoiltRuns(), spoiltStands()) {
		h := twin(base)
		x.do(&h)
		if impl.HouseOk(h) != x.ok || modelHouse(h) != x.ok {
			t.Errorf("%s: %v, by the model %v", x.what, impl.HouseOk(h), modelHouse(h))
		}
		if impl.HouseSafe(h) != modelSafe(h) {
			t.Errorf("%s: safe %v", x.what, impl.HouseSafe(h))
		}
		checkHouse(t, x.what, h)
	}
}

// checkHouse asks what functions say of a house, ok or not.
func checkHouse(t *testing.T, what string, h impl.House) {
	t.Helper()
	before, ok := spread(h), modelHouse(h)
	for _, line := range []string{tick, step, "step beta - dev 0 0 ", "tenant acme ann - 0 0 ", "user acme ann - 0 0 bob", "cancel acme dee prod 7 0 ", "policy nobody ann prod 0 0 "} {
		r, _ := modelReqRead(line)
		got, code := impl.HouseDo(h, r)
		want, wantCode := modelAnswer(h, r)
		if code != wantCode || !alike(got, want) || !ok && (code != 1 || !alike(got, impl.House{})) {
			t.Errorf("%s: %q: %d, not %d", what, line, code, wantCode)
		}
	}
	if got, code := impl.HouseDo(h, impl.Req{}); !ok && (code != 1 || !alike(got, impl.House{})) || ok && (code != 2 || !alike(got, h)) {
		t.Errorf("%s: no request: %d", what, code)
	}
	for _, at := range [][2]string{{"acme", "prod"}, {"beta", "dev"}, {"acme", "dev"}, {"", ""}, {"beta", ""}} {
		call, asks := impl.HouseCall(h, at[0], at[1])
		want, wantAsks := modelCall(h, at[0], at[1])
		if asks != wantAsks || !alike(call, want) || !ok && asks {
			t.Errorf("%s: HouseCall %v: %+v, %v", what, at, call, asks)
		}
		if view := impl.HouseView(h, at[0]); view != modelView(h, at[0]) || !ok && view != "" {
			t.Errorf("%s: HouseView %s\n%s", what, at[0], view)
		}
	}
	if spread(h) != before {
		t.Errorf("%s: the argument is changed", what)
	}
}

// P45: houses that nobody made, and great ones.
func TestHouseOdd(t *testing.T) {
	long := strings.Repeat("a", 1<<20)
	endless := impl.Value{Sort: impl.ValObject, Names: []string{"id"}, Kids: make([]impl.Value, 1)}
	endless.Kids[0] = endless
	space := func(s impl.Space) impl.House {
		s.Name = "prod"
		return impl.House{Tenants: []impl.Tenant{{Name: "acme", Spaces: []impl.Space{s}}}}
	}
	odd := []impl.House{
		{Tenants: make([]impl.Tenant, 1<<16)}, {Audit: make([]impl.AuditEntry, 1<<16)}, {Now: 1<<63 - 1}, {Now: -1 << 63},
		{Tenants: []impl.Tenant{{Name: long}}}, {Tenants: []impl.Tenant{{Name: "acme", Users: make([]impl.User, 1<<16)}}}, {Tenants: []impl.Tenant{{Name: "acme", Spaces: make([]impl.Space, 1<<16)}}},
		space(impl.Space{Conf: long}), space(impl.Space{Policy: long}), space(impl.Space{State: make([]impl.Thing, 1<<16)}), space(impl.Space{Runs: make([]impl.Run, 1<<16)}),
		space(impl.Space{State: []impl.Thing{{Id: "vm.a", Attrs: endless}}}), space(impl.Space{Runs: []impl.Run{{Id: 1, By: "bob", Stands: 1, Acts: []impl.Act{{Kind: 1, Id: "vm.a", Attrs: endless}}}}}),
		space(impl.Space{Runs: []impl.Run{{Id: 1, By: "bob", Stands: 1, Acts: make([]impl.Act, 1<<16)}}}), space(impl.Space{Runs: []impl.Run{{Id: 1, By: "bob", Stands: 1, Digest: wantSum(""), Approvals: make([]string, 1<<16)}}}),
	}
	for i, h := range odd {
		if impl.HouseOk(h) || impl.HouseSafe(h) || impl.HouseView(h, "acme") != "" {
			t.Errorf("odd house %d is ok", i)
		}
		if got, code := impl.HouseDo(h, impl.Req{Kind: impl.ReqTick}); code != 1 || !alike(got, impl.House{}) {
			t.Errorf("odd house %d: %d", i, code)
		}
		if call, asks := impl.HouseCall(h, "acme", "prod"); asks || !alike(call, impl.Call{}) {
			t.Errorf("odd house %d asks", i)
		}
	}
	many := space(impl.Space{Runs: []impl.Run{{Id: 1, By: "bob", Stands: impl.RunFailed, Digest: wantSum(""), Cap: impl.Cap{Limits: slices.Repeat([]string{"x"}, 1<<16), Run: -1}}}})
	for i := range 3000 {
		many.Tenants[0].Spaces[0].Runs[0].Approvals = append(many.Tenants[0].Spaces[0].Runs[0].Approvals, fmt.Sprintf("a%05d", i))
	}
	if got := asked(t, many, impl.Req{Kind: impl.ReqTick}, 0); got.Now != 1 {
		t.Error("no tick")
	}
}

// P53: a new house has nothing but its key, and is safe.
func TestHouseNew(t *testing.T) {
	for _, key := range []string{"", "key", someKey, "\x00\xff\n", strings.Repeat("k", 1<<16)} {
		h := impl.HouseNew(key)
		if !alike(h, impl.House{Key: key}) || !impl.HouseOk(h) || !impl.HouseSafe(h) || impl.HouseView(h, "acme") != "" || impl.HouseView(h, "") != "" {
			t.Errorf("%.40q: %.200v", key, h)
		}
		if _, asks := impl.HouseCall(h, "acme", "prod"); asks {
			t.Error("a new house asks")
		}
	}
}

// P45: houses of which several places by chance are spoiled, against the model.
func TestHouseOkAny(t *testing.T) {
	r := rand.New(rand.NewSource(131))
	base := town(t)
	all := slices.Concat(spoiltHouses(), spoiltSpaces(), spoiltStands())
	fine := slices.DeleteFunc(slices.Clone(all), func(x spoilt) bool {
		return !x.ok || strings.HasPrefix(x.what, "no tenants") || strings.HasPrefix(x.what, "no key") || strings.HasPrefix(x.what, "no space")
	})
	ok := 0
	for range 150 {
		h, told := twin(base), ""
		for range 1 + r.Intn(3) {
			x := fine[r.Intn(len(fine))]
			x.do(&h)
			told += x.what + ", "
		}
		if impl.HouseOk(h) != modelHouse(h) || impl.HouseSafe(h) != modelSafe(h) {
			t.Errorf("%s: %v", told, impl.HouseOk(h))
		}
		if impl.HouseOk(h) {
			ok++
			checkHouse(t, told, h)
		}
	}
	if ok < 50 {
		t.Error(ok, "are ok")
	}
}
