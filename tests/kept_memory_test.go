package tests

import (
	"fmt"
	"slices"
	"testing"

	"loop.example/portreeve/impl"
)

// ownAudit is an audit in memory of its own, with something behind its end.
func ownAudit(list []impl.AuditEntry) []impl.AuditEntry {
	all := make([]impl.AuditEntry, 0, len(list)+1)
	for _, e := range list {
		all = append(all, impl.AuditEntry{Seq: e.Seq, Tenant: own(e.Tenant), What: own(e.What), Detail: own(e.Detail), Sum: own(e.Sum)})
	}
	all[:len(all)+1][len(all)] = impl.AuditEntry{Detail: "behind"}
	return all
}

func auditTexts(list []impl.AuditEntry) []string {
	var all []string
	for _, e := range list {
		all = append(all, e.Tenant, e.What, e.Detail, e.Sum)
	}
	return all
}

func seenTexts(list []impl.AuditSeen) []string {
	var all []string
	for _, s := range list {
		all = append(all, s.What, s.Detail)
	}
	return all
}

// overwrite puts something into a list, and behind its end.
func overwrite[T any](list []T, one T) {
	for i := range behind(list) {
		behind(list)[i] = one
	}
}

func TestAuditMemory(t *testing.T) {
	list, tenant, what, detail := ownAudit(audit(someSaid()...)), own("acme"), own("plan"), own("a detail")
	before, given := fmt.Sprint(behind(list)), append(auditTexts(list), tenant, what, detail)
	impl.AuditOk(list)
	got, ok := impl.AuditAdd(list, tenant, what, detail)
	if !ok {
		t.Fatal("AuditAdd")
	}
	apart(t, "AuditAdd", auditTexts(got), given)
	overwrite(got, impl.AuditEntry{Detail: "changed"})
	seen := impl.AuditView(list, tenant)
	apart(t, "AuditView", seenTexts(seen), given)
	overwrite(seen, impl.AuditSeen{Detail: "changed"})
	text := impl.AuditWrite(list)
	apart(t, "AuditWrite", []string{text}, given)
	read, ok := impl.AuditRead(text)
	if !ok {
		t.Fatal("AuditRead")
	}
	apart(t, "AuditRead", auditTexts(read), append(given, text))
	overwrite(read, impl.AuditEntry{Detail: "changed"})
	if fmt.Sprint(behind(list)) != before || text != auditLines(list) {
		t.Error("an argument is changed")
	}
	for _, bad := range [][]impl.AuditEntry{ownAudit(longAudit(200)), ownAudit(longAudit(201)), ownAudit(list[1:])} {
		before := fmt.Sprint(behind(bad))
		impl.AuditAdd(bad, tenant, what, detail)
		apart(t, "AuditView", seenTexts(impl.AuditView(bad, "acme")), auditTexts(bad))
		if fmt.Sprint(behind(bad)) != before {
			t.Error("an argument is changed")
		}
	}
	if again, _ := impl.AuditAdd(list, tenant, what, detail); !impl.AuditOk(again) || len(again) != len(list)+1 {
		t.Error("two answers share memory")
	}
}

func capTexts(c impl.Cap) []string {
	return append([]string{c.Tenant, c.Space, c.Seal}, c.Limits...)
}

func TestCapMemory(t *testing.T) {
	key, tenant, space := own(someKey), own("acme"), own("prod")
	minted, ok := impl.CapMint(key, tenant, space, 3, 5, 9)
	if !ok {
		t.Fatal("CapMint")
	}
	apart(t, "CapMint", capTexts(minted), []string{key, tenant, space})
	for n := range 4 {
		c := grant("only vm.a", "until 7", "until 8", "only vm.b")
		c.Tenant, c.Space, c.Limits = own("acme"), own("prod"), ownTexts(c.Limits[:n]...)
		limit, before := own("until 7"), fmt.Sprint(c, behind(c.Limits))
		got, ok := impl.CapNarrow(c, limit)
		if !ok {
			t.Fatal("CapNarrow")
		}
		apart(t, "CapNarrow", capTexts(got), append(capTexts(c), limit))
		overwrite(got.Limits, "changed")
		impl.CapMay(key, c, tenant, space, 3, "vm.a", 7)
		text := impl.CapWrite(c)
		apart(t, "CapWrite", []string{text}, capTexts(c))
		read, ok := impl.CapRead(text)
		if !ok {
			t.Fatal("CapRead")
		}
		apart(t, "CapRead", capTexts(read), append(capTexts(c), text))
		overwrite(read.Limits, "changed")
		if fmt.Sprint(c, behind(c.Limits)) != before || text != capText(c) {
			t.Error("an argument is changed")
		}
		if again, _ := impl.CapNarrow(c, limit); len(again.Limits) != n+1 || again.Limits[n] != "until 7" {
			t.Error("two answers share memory")
		}
	}
}

func TestTapeMemory(t *testing.T) {
	for _, x := range [][2][]string{{nil, nil}, {pieces("a"), nil}, {nil, pieces("b", "c")}, {pieces("a", "a2"), pieces("b", "c", piece("d"))}} {
		tape, record := impl.Tape{Safe: ownTexts(x[0]...), Loose: ownTexts(x[1]...)}, own("a record")
		before := fmt.Sprint(behind(tape.Safe), behind(tape.Loose))
		given := append(slices.Concat(tape.Safe, tape.Loose), record)
		added, _ := impl.TapeAdd(tape, record)
		answers := map[string]impl.Tape{"TapeAdd": added, "TapeSync": impl.TapeSync(tape), "TapeCrash of none": impl.TapeCrash(tape, 0, 0), "TapeCrash": impl.TapeCrash(tape, 1, 5), "TapeCrash with all of one": impl.TapeCrash(tape, 0, 1000)}
		records, opened := impl.TapeOpen(impl.Tape{Safe: tape.Safe})
		answers["TapeOpen"] = impl.Tape{Safe: opened.Safe, Loose: records}
		for what, answer := range answers {
			apart(t, what, slices.Concat(answer.Safe, answer.Loose), given)
			safe := fmt.Sprint(answer.Safe)
			overwrite(answer.Loose, "changed")
			if fmt.Sprint(answer.Safe) != safe {
				t.Errorf("%s: two lists share memory", what)
			}
			overwrite(answer.Safe, "changed")
		}
		if fmt.Sprint(behind(tape.Safe), behind(tape.Loose)) != before {
			t.Error("an argument is changed")
		}
		if again, _ := impl.TapeOpen(impl.TapeSync(tape)); len(again) != len(x[0])+len(x[1]) {
			t.Error("two answers share memory")
		}
	}
}

func TestReqMemory(t *testing.T) {
	all := append(make([]impl.User, 0, 3), impl.User{Name: "ann", Roles: ownTexts("owner")}, impl.User{Name: "bob", Roles: ownTexts("plan", "write")})
	before := fmt.Sprint(behind(all), behind(all[1].Roles))
	impl.UsersOk(all)
	if !impl.TenantMay(all, "bob", "plan") || fmt.Sprint(behind(all), behind(all[1].Roles)) != before {
		t.Error("an argument is changed")
	}
	for _, r := range goodReqs() {
		text := own(impl.ReqWrite(r))
		given := []string{r.Tenant, r.User, r.Space, r.Text}
		apart(t, "ReqWrite", []string{impl.ReqWrite(r)}, given)
		got, _ := impl.ReqRead(text)
		apart(t, "ReqRead", []string{got.Tenant, got.User, got.Space, got.Text}, append(given, text))
	}
}
