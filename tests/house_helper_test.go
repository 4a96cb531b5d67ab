package tests

import (
	"fmt"
	"reflect"
	"regexp"
	"slices"
	"strconv"
	"strings"
	"testing"

	"loop.example/portreeve/impl"
)

// Words on the house, said once more; lower layers, which have models of their own, are asked as they are.

// modelPath is the key of an act.
func modelPath(tenant, space string, run, place int) string {
	return fmt.Sprintf("%s/%s/%d/%d", tenant, space, run, place)
}

func modelGiven(key string) string { return "i-" + wantSum(key)[:6] }

func modelNames(list []string) bool {
	return slices.IsSorted(list) && len(slices.Compact(slices.Clone(list))) == len(list) && !slices.ContainsFunc(list, func(name string) bool { return !modelName(name) })
}

func modelUsers(list []impl.User) bool {
	var names []string
	for _, u := range list {
		left := slices.DeleteFunc(slices.Clone(roles), func(role string) bool { return !slices.Contains(u.Roles, role) })
		if !slices.Equal(left, u.Roles) {
			return false
		}
		names = append(names, u.Name)
	}
	return len(list) <= 5 && modelNames(names)
}

func modelHas(list []impl.User, name, role string) bool {
	return slices.ContainsFunc(list, func(u impl.User) bool { return u.Name == name && slices.Contains(u.Roles, role) })
}

func modelRun(key string, tenant string, s impl.Space, at int) bool {
	r := s.Runs[at]
	_, fault := impl.ConfParse(r.Conf)
	text := impl.PlanWrite(r.Acts)
	ok := r.Id == at+1 && modelName(r.By) && fault.Code == 0 && r.Digest == wantSum(text) && (text != "" || len(r.Acts) == 0) && r.Version >= 0 && r.Version <= s.Version &&
		r.At >= 0 && r.At <= len(r.Acts) && modelNames(r.Approvals) && !slices.Contains(r.Approvals, r.By)
	switch r.Stands {
	case impl.RunWaits, impl.RunDenied, impl.RunStale:
		return ok && r.At == 0 && r.Intent == "" && sameCap(r.Cap, impl.Cap{})
	case impl.RunDone, impl.RunFailed, impl.RunCancelled:
		return ok && r.Intent == ""
	case impl.RunGoes:
		c := r.Cap
		return ok && r.At < len(r.Acts) && (r.Intent == "" || r.Intent == modelPath(tenant, s.Name, r.Id, r.At)) && modelCap(c) && c.Seal == modelSeal(key, c) && c.Tenant == tenant && c.Space == s.Name && c.Run == r.Id
	}
	return false
}

func modelSpace(key string, tenant string, s impl.Space) bool {
	_, confFault := impl.ConfParse(s.Conf)
	_, polFault := impl.PolParse(s.Policy)
	if confFault.Code != 0 || polFault.Code != 0 || s.Need < 0 || s.Need > 3 || s.Quota < 0 || s.Quota > 10 || !impl.StateOk(s.State) || s.Version < 0 || s.Version > 999999 || len(s.Runs) > 8 {
		return false
	}
	going := 0
	for i, r := range s.Runs {
		if !modelRun(key, tenant, s, i) {
			return false
		}
		if r.Stands == impl.RunGoes {
			going++
		}
	}
	return going < 2
}

func modelHouse(h impl.House) bool {
	if len(h.Tenants) > 3 || h.Now < 0 || h.Now > 999999 || !modelAudit(h.Audit) {
		return false
	}
	var names []string
	for _, t := range h.Tenants {
		names = append(names, t.Name)
		var spaces []string
		for _, s := range t.Spaces {
			spaces = append(spaces, s.Name)
			if !modelSpace(h.Key, t.Name, s) {
				return false
			}
		}
		if !modelUsers(t.Users) || len(spaces) > 2 || !modelNames(spaces) {
			return false
		}
	}
	return modelNames(names)
}

func modelSafe(h impl.House) bool {
	for _, t := range h.Tenants {
		for _, s := range t.Spaces {
			for _, r := range s.Runs {
				if (r.Stands == impl.RunGoes || r.At > 0) && len(r.Approvals) < s.Need {
					return false
				}
			}
		}
	}
	return modelHouse(h)
}

func tenantOf(h *impl.House, name string) *impl.Tenant {
	for i := range h.Tenants {
		if h.Tenants[i].Name == name {
			return &h.Tenants[i]
		}
	}
	return nil
}

func spaceOf(h *impl.House, tenant, name string) *impl.Space {
	if t := tenantOf(h, tenant); t != nil {
		for i := range t.Spaces {
			if t.Spaces[i].Name == name {
				return &t.Spaces[i]
			}
		}
	}
	return nil
}

// modelTurn is the run that a step is of.
func modelTurn(s *impl.Space) *impl.Run {
	var first *impl.Run
	for i := range s.Runs {
		switch {
		case s.Runs[i].Stands == impl.RunGoes:
			return &s.Runs[i]
		case s.Runs[i].Stands == impl.RunWaits && first == nil:
			first = &s.Runs[i]
		}
	}
	return first
}

// modelAnswer is a house behind a request, and its code.
func modelAnswer(given impl.House, r impl.Req) (impl.House, int) {
	if !modelHouse(given) {
		return impl.House{}, 1
	}
	h := twin(given)
	if !modelReq(r) {
		return h, 2
	}
	code := modelAsk(&h, r)
	if code != 0 {
		h = twin(given)
	}
	detail := fmt.Sprintf("%s %s %d %d %s", or(r.User, "-"), or(r.Space, "-"), r.Run, r.Num, wantSum(r.Text)[:12])
	told := saidOf(h.Audit)
	switch {
	case code == 0 && r.Kind != impl.ReqTick:
		told = append(told, said{r.Tenant, kindWords[r.Kind], detail})
	case code != 0 && r.Kind != impl.ReqTenant && code != 11 && tenantOf(&h, r.Tenant) != nil && len(told) < 200:
		told = append(told, said{r.Tenant, "refuse", fmt.Sprintf("%s %s %d", detail, kindWords[r.Kind], code)})
	}
	h.Audit = audit(told...)
	return h, code
}

func modelAsk(h *impl.House, r impl.Req) int {
	switch {
	case r.Kind == impl.ReqTick && h.Now == 999999:
		return 6
	case r.Kind == impl.ReqTick:
		h.Now++
		return 0
	case len(h.Audit) == 200:
		return 11
	case r.Kind == impl.ReqTenant && (r.Tenant == "" || r.User == ""):
		return 2
	case r.Kind == impl.ReqTenant && tenantOf(h, r.Tenant) != nil:
		return 5
	case r.Kind == impl.ReqTenant && len(h.Tenants) == 3:
		return 6
	case r.Kind == impl.ReqTenant:
		h.Tenants = append(h.Tenants, impl.Tenant{Name: r.Tenant, Users: users(r.User + " owner")})
		slices.SortFunc(h.Tenants, func(a, b impl.Tenant) int { return strings.Compare(a.Name, b.Name) })
		return 0
	}
	t := tenantOf(h, r.Tenant)
	role := []string{3: "owner", 4: "owner", 5: "write", 6: "owner", 7: "plan", 8: "approve", 9: "plan", 10: ""}[r.Kind]
	switch {
	case t == nil:
		return 3
	case role != "" && !modelHas(t.Users, r.User, role):
		return 4
	case r.Kind == impl.ReqUser:
		return modelSetUser(t, r.Text)
	case r.Kind == impl.ReqSpace:
		return modelAddSpace(t, r)
	}
	s := spaceOf(h, r.Tenant, r.Space)
	if s == nil {
		return 3
	}
	switch r.Kind {
	case impl.ReqConf:
		s.Conf = r.Text
		return modelFault(modelSpace(h.Key, t.Name, *s), 2)
	case impl.ReqPolicy:
		s.Policy = r.Text
		return modelFault(modelSpace(h.Key, t.Name, *s), 2)
	case impl.ReqPlan:
		return modelAddRun(s, r.User)
	case impl.ReqStep:
		return modelStep(h, t, s, r.Num)
	}
	if r.Run < 1 || r.Run > len(s.Runs) {
		return 3
	}
	if r.Kind == impl.ReqCancel {
		return modelCancel(&s.Runs[r.Run-1])
	}
	return modelApprove(&s.Runs[r.Run-1], r)
}

func modelFault(ok bool, code int) int {
	if ok {
		return 0
	}
	return code
}

var userForm = regexp.MustCompile(`\A([a-z][a-z0-9]{0,6})( approve)?( owner)?( plan)?( write)?\z`)

func modelSetUser(t *impl.Tenant, text string) int {
	m := userForm.FindStringSubmatch(text)
	if m == nil {
		return 2
	}
	t.Users = slices.DeleteFunc(t.Users, func(u impl.User) bool { return u.Name == m[1] })
	t.Users = append(t.Users, impl.User{Name: m[1], Roles: strings.Fields(strings.Join(m[2:], ""))})
	slices.SortFunc(t.Users, func(a, b impl.User) int { return strings.Compare(a.Name, b.Name) })
	return modelFault(len(t.Users) <= 5, 6)
}

func modelAddSpace(t *impl.Tenant, r impl.Req) int {
	need, quota := r.Num/100, r.Num-r.Num/100*100
	if r.Space == "" || need > 3 || quota > 10 {
		return 2
	}
	if slices.ContainsFunc(t.Spaces, func(s impl.Space) bool { return s.Name == r.Space }) {
		return 5
	}
	t.Spaces = append(t.Spaces, impl.Space{Name: r.Space, Need: need, Quota: quota})
	slices.SortFunc(t.Spaces, func(a, b impl.Space) int { return strings.Compare(a.Name, b.Name) })
	return modelFault(len(t.Spaces) <= 2, 6)
}

func modelDenied(s *impl.Space, acts []impl.Act) (bool, bool) {
	rules, _ := impl.PolParse(s.Policy)
	denied, ok := impl.PolDenies(rules, acts)
	return len(denied) > 0, ok
}

func modelAddRun(s *impl.Space, by string) int {
	list, _ := impl.ConfParse(s.Conf)
	acts, fault := impl.PlanMake(list, nil, s.State)
	text := impl.PlanWrite(acts)
	if fault.Code != 0 || text == "" && len(acts) > 0 || len(acts) > s.Quota {
		return 8
	}
	denied, ok := modelDenied(s, acts)
	if len(s.Runs) == 8 {
		return 6
	}
	if !ok {
		return 8
	}
	run := impl.Run{Id: len(s.Runs) + 1, By: by, Conf: s.Conf, Acts: acts, Digest: wantSum(text), Version: s.Version, Stands: impl.RunWaits}
	if denied {
		run.Stands = impl.RunDenied
	}
	s.Runs = append(s.Runs, run)
	return 0
}

func modelApprove(run *impl.Run, r impl.Req) int {
	switch {
	case run.Stands != impl.RunWaits:
		return 7
	case r.Text != run.Digest:
		return 9
	case r.User == run.By:
		return 4
	case slices.Contains(run.Approvals, r.User):
		return 5
	}
	run.Approvals = append(run.Approvals, r.User)
	slices.Sort(run.Approvals)
	return 0
}

func modelCancel(run *impl.Run) int {
	if run.Intent != "" || run.Stands != impl.RunWaits && run.Stands != impl.RunGoes {
		return 7
	}
	run.Stands = impl.RunCancelled
	return 0
}

func modelStep(h *impl.House, t *impl.Tenant, s *impl.Space, num int) int {
	run := modelTurn(s)
	if run == nil || s.Version == 999999 {
		return 10
	}
	if run.Stands == impl.RunWaits {
		return modelBegin(h, t, s, run)
	}
	act := run.Acts[run.At]
	if run.Intent == "" {
		if modelMay(h.Key, run.Cap, t.Name, s.Name, run.Id, act.Id, h.Now) {
			run.Intent = modelPath(t.Name, s.Name, run.Id, run.At)
		} else {
			run.Stands = impl.RunFailed
		}
		return 0
	}
	list, _ := impl.ConfParse(run.Conf)
	state, code := impl.PlanDo(list, nil, s.State, act, modelGiven(run.Intent))
	run.Intent = ""
	if num > 0 || code != 0 {
		run.Stands = impl.RunFailed
		return 0
	}
	s.State, s.Version, run.At = state, s.Version+1, run.At+1
	if run.At == len(run.Acts) {
		run.Stands = impl.RunDone
	}
	return 0
}

func modelBegin(h *impl.House, t *impl.Tenant, s *impl.Space, run *impl.Run) int {
	if run.Version != s.Version {
		run.Stands = impl.RunStale
		return 0
	}
	count := 0
	for _, name := range run.Approvals {
		if modelHas(t.Users, name, "approve") {
			count++
		}
	}
	if count < s.Need {
		return 10
	}
	if denied, ok := modelDenied(s, run.Acts); denied || !ok {
		run.Stands = impl.RunDenied
		return 0
	}
	run.Cap = impl.Cap{Tenant: t.Name, Space: s.Name, Run: run.Id, From: h.Now, Until: min(h.Now+20, 999999)}
	run.Cap.Seal = modelSeal(h.Key, run.Cap)
	run.Stands = impl.RunGoes
	if len(run.Acts) == 0 {
		run.Stands = impl.RunDone
	}
	return 0
}

// modelCall is what a space's run asks of the world.
func modelCall(h impl.House, tenant, space string) (impl.Call, bool) {
	s := spaceOf(&h, tenant, space)
	if !modelHouse(h) || s == nil {
		return impl.Call{}, false
	}
	run := modelTurn(s)
	if run == nil || run.Intent == "" {
		return impl.Call{}, false
	}
	act := run.Acts[run.At]
	list, _ := impl.ConfParse(run.Conf)
	state, code := impl.PlanDo(list, nil, s.State, act, modelGiven(run.Intent))
	if code != 0 {
		return impl.Call{}, false
	}
	text := fmt.Sprintf("%s %s", []string{"", "create", "update", "replace", "delete"}[act.Kind], act.Id)
	if act.Kind != impl.ActDelete {
		done, _ := find(state, act.Id)
		at := slices.Index(done.Attrs.Names, "id")
		attrs := impl.Value{Sort: impl.ValObject, Names: slices.Delete(slices.Clone(done.Attrs.Names), at, at+1), Kids: slices.Delete(slices.Clone(done.Attrs.Kids), at, at+1)}
		text += strings.Join(append([]string{" " + modelShow(attrs)}, act.Needs...), " ")
	}
	return impl.Call{Key: run.Intent, Kind: act.Kind, Id: act.Id, Text: text + "\n", Cap: run.Cap}, true
}

func modelView(h impl.House, tenant string) string {
	t := tenantOf(&h, tenant)
	if !modelHouse(h) || t == nil {
		return ""
	}
	text := "tenant " + tenant + "\n"
	for _, u := range t.Users {
		text += strings.Join(append([]string{"user", u.Name}, u.Roles...), " ") + "\n"
	}
	for _, s := range t.Spaces {
		text += fmt.Sprintf("space %s, %d approve, %d acts, version %d\n%s", s.Name, s.Need, s.Quota, s.Version, impl.StateWrite(s.State))
		for _, r := range s.Runs {
			stands := strings.Fields("waits denied goes done failed cancelled stale")[r.Stands-1]
			text += fmt.Sprintf("run %d by %s %s %d of %d, approved by %d, %.8s\n", r.Id, r.By, stands, r.At, len(r.Acts), len(r.Approvals), r.Digest)
		}
	}
	for _, e := range h.Audit {
		if e.Tenant == tenant {
			text += e.What + " " + e.Detail + "\n"
		}
	}
	return text
}

// asked is a house behind a request, which the model is asked of, too; all that must hold of any request is asked here.
func asked(t *testing.T, h impl.House, r impl.Req, code int) impl.House {
	t.Helper()
	before := spread(h)
	got, c := impl.HouseDo(h, r)
	if c != code {
		t.Fatalf("%.80q: %d, not %d", reqLine(r), c, code)
	}
	want, wantCode := modelAnswer(h, r)
	if c != wantCode || !alike(got, want) {
		t.Fatalf("%.80q: %d\n%+v\nnot %d\n%+v", reqLine(r), c, got, wantCode, want)
	}
	if spread(h) != before {
		t.Fatalf("%.80q: the argument is changed", reqLine(r))
	}
	if !impl.HouseOk(got) && code != 1 {
		t.Fatalf("%.80q: the house is not ok\n%+v", reqLine(r), got)
	}
	return got
}

// reqLine is a request as a text, whatever its kind.
func reqLine(r impl.Req) string {
	if r.Kind < 0 || r.Kind >= len(kindWords) {
		return "kind " + strconv.Itoa(r.Kind)
	}
	return reqText(r)
}

// does is a house behind requests, each with the code that is ahead of its line, if one is.
func does(t *testing.T, h impl.House, list ...string) impl.House {
	t.Helper()
	for _, line := range list {
		code := 0
		if n, rest, ok := strings.Cut(line, ": "); ok {
			if c, err := strconv.Atoi(n); err == nil {
				code, line = c, rest
			}
		}
		r, ok := modelReqRead(line)
		if !ok {
			t.Fatalf("%q is no request", line)
		}
		h = asked(t, h, r, code)
	}
	return h
}

// digest is that of a run.
func digest(h impl.House, space string, run int) string {
	return spaceOf(&h, "acme", space).Runs[run-1].Digest
}

// approved is a house in which users approved a run of acme.
func approved(t *testing.T, h impl.House, space string, run int, names ...string) impl.House {
	t.Helper()
	for _, name := range names {
		h = does(t, h, fmt.Sprintf("approve acme %s %s %d 0 %s", name, space, run, digest(h, space, run)))
	}
	return h
}

const (
	confTwo   = "thing vm.a\n  size 1\nend\nthing vm.b\n  link @vm.a.id\nend\n"
	confMore  = "thing net.b\n  zone \"eu\"\nend\nthing vm.a\n  size 2\nend\nthing vm.b\n  link @vm.a.id\nend\n"
	confOther = "thing net.b\n  zone \"us\"\nend\nthing vm.a\n  link @net.b.id\n  size 2\nend\n"
	step      = "step acme - prod 0 0 "
	plans     = "plan acme bob prod 0 0 "
	tick      = "tick - - - 0 0 "
)

// village is a house with a tenant acme, whose users have roles, and a space prod with a configuration of two things.
func village(t *testing.T, need, quota int) impl.House {
	t.Helper()
	return does(t, impl.HouseNew(someKey), "tenant acme ann - 0 0 ", "user acme ann - 0 0 bob plan write", "user acme ann - 0 0 cy approve", "user acme ann - 0 0 dee approve plan", "user acme ann - 0 0 eve approve",
		fmt.Sprintf("space acme ann prod 0 %d ", need*100+quota), "conf acme bob prod 0 0 "+confTwo)
}

// goes is a house whose run 1 goes, without an intent yet.
func goes(t *testing.T) impl.House {
	t.Helper()
	return does(t, approved(t, does(t, village(t, 1, 10), plans), "prod", 1, "cy"), step)
}

// town is a house with two tenants, of which acme has a run of each kind: done, stale, failed, cancelled, denied, one that goes with an intent, and one that waits.
func town(t *testing.T) impl.House {
	t.Helper()
	h := does(t, goes(t), plans, step, step, step, step, step, "conf acme bob prod 0 0 "+confMore, plans)
	h = does(t, approved(t, h, "prod", 3, "cy", "dee"), step, step, "step acme - prod 0 1 ", plans, "cancel acme bob prod 4 0 ", "policy acme ann prod 0 0 deny X if act update X\n", plans, "policy acme ann prod 0 0 ", plans)
	h = does(t, approved(t, h, "prod", 6, "eve"), tick, step, step, plans)
	h = approved(t, h, "prod", 7, "cy", "eve")
	return does(t, h, "tenant beta ann - 0 0 ", "user beta ann - 0 0 zoe approve owner plan write", "space beta zoe dev 0 3 ", "4: conf beta ann dev 0 0 ", "conf beta zoe dev 0 0 "+confTwo)
}

// twin is a value in memory of its own, each list with room behind its end.
func twin[T any](v T) T {
	return twinOf(reflect.ValueOf(v)).Interface().(T)
}

func twinOf(v reflect.Value) reflect.Value {
	made := reflect.New(v.Type()).Elem()
	switch v.Kind() {
	case reflect.String:
		made.SetString(strings.Clone(v.String()))
	case reflect.Slice:
		made.Set(reflect.MakeSlice(v.Type(), v.Len(), v.Len()+2))
		for i := range v.Len() {
			made.Index(i).Set(twinOf(v.Index(i)))
		}
	case reflect.Struct:
		for i := range v.NumField() {
			made.Field(i).Set(twinOf(v.Field(i)))
		}
	default:
		made.Set(v)
	}
	return made
}

// alike says whether two values are the same, empty lists and nil being one.
func alike(a, b any) bool {
	return alikeOf(reflect.ValueOf(a), reflect.ValueOf(b))
}

func alikeOf(a, b reflect.Value) bool {
	switch a.Kind() {
	case reflect.Slice:
		if a.Len() != b.Len() {
			return false
		}
		for i := range a.Len() {
			if !alikeOf(a.Index(i), b.Index(i)) {
				return false
			}
		}
		return true
	case reflect.Struct:
		for i := range a.NumField() {
			if !alikeOf(a.Field(i), b.Field(i)) {
				return false
			}
		}
		return true
	}
	return a.Equal(b)
}

// spread is a value as a text, with what is behind the ends of its lists.
func spread(v any) string {
	var text strings.Builder
	spreadOf(&text, reflect.ValueOf(v))
	return text.String()
}

func spreadOf(text *strings.Builder, v reflect.Value) {
	switch v.Kind() {
	case reflect.Slice:
		fmt.Fprintf(text, "[%d:", v.Len())
		for i := range v.Cap() {
			spreadOf(text, v.Slice(0, v.Cap()).Index(i))
		}
		text.WriteString("]")
	case reflect.Struct:
		text.WriteString("{")
		for i := range v.NumField() {
			spreadOf(text, v.Field(i))
		}
		text.WriteString("}")
	case reflect.String:
		fmt.Fprintf(text, "%q ", v.String())
	default:
		fmt.Fprintf(text, "%v ", v)
	}
}
