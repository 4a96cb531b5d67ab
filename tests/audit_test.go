package tests

import (
	"fmt"
	"math/rand"
	"slices"
	"strings"
	"testing"

	"loop.example/portreeve/impl"
)

// The sums of a chain are those that the document's words make.
func TestAuditSums(t *testing.T) {
	var list []impl.AuditEntry
	for i, s := range someSaid() {
		next, ok := impl.AuditAdd(list, s.tenant, s.what, s.detail)
		if !ok || !slices.Equal(next, audit(someSaid()[:i+1]...)) {
			t.Fatal(i, ok, next)
		}
		list = next
	}
	if list[1].Sum != impl.HashList([]string{list[0].Sum, "2", "beta", "plan", ""}) || list[0].Sum != impl.HashList([]string{"", "1", "acme", "tenant", "ann - 0 0"}) {
		t.Error(list)
	}
}

// spoilEntry is the ways in which an entry can be another one.
func spoilEntry() map[string]func(e *impl.AuditEntry) {
	return map[string]func(e *impl.AuditEntry){
		"seq one more":    func(e *impl.AuditEntry) { e.Seq++ },
		"seq one less":    func(e *impl.AuditEntry) { e.Seq-- },
		"no seq":          func(e *impl.AuditEntry) { e.Seq = 0 },
		"seq below":       func(e *impl.AuditEntry) { e.Seq = -e.Seq },
		"tenant":          func(e *impl.AuditEntry) { e.Tenant = "gamma" },
		"tenant longer":   func(e *impl.AuditEntry) { e.Tenant += "x" },
		"no tenant":       func(e *impl.AuditEntry) { e.Tenant = "" },
		"what":            func(e *impl.AuditEntry) { e.What = "other" },
		"what and detail": func(e *impl.AuditEntry) { e.What, e.Detail = e.What[:1], e.What[1:]+e.Detail },
		"changed places":  func(e *impl.AuditEntry) { e.Tenant, e.What = e.What, e.Tenant },
		"detail":          func(e *impl.AuditEntry) { e.Detail = "other" },
		"detail longer":   func(e *impl.AuditEntry) { e.Detail += " " },
		"sum":             func(e *impl.AuditEntry) { e.Sum = e.Sum[1:] + e.Sum[:1] },
		"sum of all this": func(e *impl.AuditEntry) { e.Sum = impl.HashSum(e.Sum) },
		"no sum":          func(e *impl.AuditEntry) { e.Sum = "" },
		"sum shorter":     func(e *impl.AuditEntry) { e.Sum = e.Sum[:63] },
		"sum longer":      func(e *impl.AuditEntry) { e.Sum += "0" },
		"sum in capitals": func(e *impl.AuditEntry) { e.Sum = strings.ToUpper(e.Sum) },
	}
}

// P32, with each part of an entry another one, at each place.
func TestAuditChanged(t *testing.T) {
	for what, change := range spoilEntry() {
		for _, n := range []int{1, 2, 7} {
			for i := range n {
				list := audit(someSaid()[:n]...)
				change(&list[i])
				if impl.AuditOk(list) || impl.AuditWrite(list) != "" {
					t.Errorf("%s at %d of %d is not seen", what, i, n)
				}
				if got, ok := impl.AuditAdd(list, "acme", "plan", "x"); got != nil || ok {
					t.Errorf("%s at %d of %d: there is an entry more", what, i, n)
				}
				if got, ok := impl.AuditRead(auditLines(list)); got != nil || ok {
					t.Errorf("%s at %d of %d is read", what, i, n)
				}
			}
		}
	}
}

// P32: what is left out, told twice, or told in another order is seen.
func TestAuditLeftOut(t *testing.T) {
	whole := audit(someSaid()...)
	for i := range whole {
		out := slices.Delete(slices.Clone(whole), i, i+1)
		if impl.AuditOk(out) != (i == len(whole)-1) {
			t.Errorf("without the one at %d", i)
		}
		for k := range out {
			out[k].Seq = k + 1
		}
		if impl.AuditOk(out) != (i == len(whole)-1) {
			t.Errorf("without the one at %d, counted anew", i)
		}
		if impl.AuditOk(slices.Insert(slices.Clone(whole), i, whole[i])) {
			t.Errorf("with the one at %d twice", i)
		}
		for k := range i {
			swapped := slices.Clone(whole)
			swapped[i], swapped[k] = swapped[k], swapped[i]
			if impl.AuditOk(swapped) {
				t.Errorf("%d and %d changed places", i, k)
			}
			swapped[i].Seq, swapped[k].Seq = i+1, k+1
			if impl.AuditOk(swapped) {
				t.Errorf("%d and %d changed places, but for their numbers", i, k)
			}
		}
	}
}

// P71: each beginning is whole; no other part of it is; and what comes behind it has sums of its own.
func TestAuditBeginnings(t *testing.T) {
	whole := audit(someSaid()...)
	sums := map[string]string{}
	for n := range len(whole) + 1 {
		if !impl.AuditOk(whole[:n]) {
			t.Errorf("the first %d are not whole", n)
		}
		if n > 0 && n < len(whole) && impl.AuditOk(whole[n:]) {
			t.Errorf("all but the first %d are whole", n)
		}
		for _, s := range []said{{"acme", "plan", "x"}, {"acme", "plan", "y"}, {"acme", "planx", ""}, {"acmep", "lan", "x"}, {"beta", "plan", "x"}, {"plan", "acme", "x"}, {"acme", "plan", ""}} {
			next, ok := impl.AuditAdd(whole[:n], s.tenant, s.what, s.detail)
			if !ok || len(next) != n+1 || !impl.AuditOk(next) {
				t.Fatal(n, s, ok)
			}
			what := fmt.Sprint(n, s)
			if other := sums[next[n].Sum]; other != "" {
				t.Errorf("%s has the sum of %s", what, other)
			}
			sums[next[n].Sum] = what
		}
	}
	if !impl.AuditOk(nil) || !impl.AuditOk([]impl.AuditEntry{}) {
		t.Error("no entries")
	}
}

// entryEdges is entries, and whether each can be one.
func entryEdges() map[said]bool {
	edges := map[said]bool{
		{"a", "b", ""}: true, {"abcdefg", "a234567", " "}: true, {"acme", "plan", " ~"}: true, {"acme", "plan", strings.Repeat(" ", 160)}: true,
		{"acme", "plan", strings.Repeat("x", 160)}: true, {"acme", "plan", strings.Repeat("x", 161)}: false, {"acme", "plan", strings.Repeat("x", 1<<20)}: false,
		{"acme", "plan", "\x1f"}: false, {"acme", "plan", "\x20"}: true, {"acme", "plan", "\x7e"}: true, {"acme", "plan", "\x7f"}: false, {"acme", "plan", "a\x00"}: false,
		{"acme", "plan", "\n"}: false, {"acme", "plan", "a\nb"}: false, {"acme", "plan", "\t"}: false, {"acme", "plan", "\x80"}: false, {"acme", "plan", "\xff"}: false, {"acme", "plan", "é"}: false, {"acme", "plan", "\ufffd"}: false,
	}
	for _, none := range []string{"", " ", "-", "Acme", "aCme", "1a", "abcdefgh", "a-b", "a.b", "a b", "a\n", "é", "a\x00", strings.Repeat("a", 1<<20)} {
		edges[said{none, "plan", "x"}] = false
		edges[said{"acme", none, "x"}] = false
	}
	return edges
}

// P32, P33: what can be an entry, of an audit whose sums are right, and of one that is to come.
func TestAuditEdges(t *testing.T) {
	for s, want := range entryEdges() {
		for n := range 3 {
			list := slices.Insert(someSaid()[:2], n, s)
			if impl.AuditOk(audit(list...)) != want || impl.AuditOk(audit(list...)) != modelAudit(audit(list...)) {
				t.Errorf("at %d %.40q: AuditOk is not %v", n, s, want)
			}
			if _, ok := impl.AuditRead(auditLines(audit(list...))); ok != want {
				t.Errorf("at %d %.40q: AuditRead is not %v", n, s, want)
			}
		}
		for _, list := range [][]said{nil, someSaid()} {
			got, ok := impl.AuditAdd(audit(list...), s.tenant, s.what, s.detail)
			if ok != want || ok && !slices.Equal(got, audit(append(list, s)...)) || !ok && got != nil {
				t.Errorf("behind %d %.40q: AuditAdd is %v", len(list), s, ok)
			}
		}
	}
}

// P33: all stay as they are, with one more behind them, as long as there is room.
func TestAuditAdd(t *testing.T) {
	for _, n := range []int{0, 1, 198, 199} {
		before := longAudit(n)
		got, ok := impl.AuditAdd(before, "beta", "step", "y")
		if !ok || len(got) != n+1 || !slices.Equal(got[:n], before) || got[n].Seq != n+1 || !slices.Equal(saidOf(got[n:]), []said{{"beta", "step", "y"}}) || !impl.AuditOk(got) {
			t.Errorf("to %d: %v", n, ok)
		}
	}
	if got, ok := impl.AuditAdd(longAudit(200), "beta", "step", "y"); got != nil || ok {
		t.Error("to 200")
	}
	if !impl.AuditOk(longAudit(200)) || impl.AuditOk(longAudit(201)) || impl.AuditOk(longAudit(1000)) {
		t.Error("as many as there may be, and more")
	}
	if got, ok := impl.AuditAdd(longAudit(201), "beta", "step", "y"); got != nil || ok {
		t.Error("to 201")
	}
	if text := impl.AuditWrite(longAudit(200)); text != auditLines(longAudit(200)) || impl.AuditWrite(longAudit(201)) != "" {
		t.Error("the text of 200, and of 201")
	}
	if got, ok := impl.AuditRead(auditLines(longAudit(200))); !ok || !slices.Equal(got, longAudit(200)) {
		t.Error("200 are not read")
	}
	if got, ok := impl.AuditRead(auditLines(longAudit(201))); ok || got != nil {
		t.Error("201 are read")
	}
}

// P34, of audits that are whole and of others.
func TestAuditView(t *testing.T) {
	spoilt := audit(someSaid()...)
	spoilt[0].Detail, spoilt[2].Seq, spoilt[4].Sum = strings.Repeat("\n", 200), -7, ""
	spoilt = append(spoilt, impl.AuditEntry{}, impl.AuditEntry{Tenant: "No Name", What: "\x00", Detail: "\xff"})
	long := append(longAudit(300), audit(someSaid()...)...)
	for i, list := range [][]impl.AuditEntry{nil, audit(someSaid()...), audit(someSaid()[:1]...), spoilt, long} {
		for _, tenant := range []string{"acme", "beta", "b", "bet", "acm", "acmes", "gamma", "", "No Name", "Acme"} {
			var want []impl.AuditSeen
			for _, e := range list {
				if e.Tenant == tenant {
					want = append(want, impl.AuditSeen{What: e.What, Detail: e.Detail})
				}
			}
			if got := impl.AuditView(list, tenant); !slices.Equal(got, want) {
				t.Errorf("audit %d, %q: %v", i, tenant, got)
			}
		}
	}
	if got := impl.AuditView(spoilt, "acme"); len(got) != 4 || got[0].Detail != spoilt[0].Detail {
		t.Error("an audit that is not whole:", got)
	}
	if got := impl.AuditView(audit(someSaid()...), "beta"); !slices.Equal(got, []impl.AuditSeen{{What: "plan"}, {What: "step123", Detail: " ~ \"\\ "}}) {
		t.Error(got)
	}
}

// P35, of each beginning.
func TestAuditText(t *testing.T) {
	for n := range len(someSaid()) + 1 {
		list := audit(someSaid()[:n]...)
		text := impl.AuditWrite(list)
		if text != auditLines(list) {
			t.Errorf("%d are written %q", n, text)
		}
		got, ok := impl.AuditRead(text)
		if !ok || !slices.Equal(got, list) || impl.AuditWrite(got) != text {
			t.Errorf("%q is read as %v, %v", text, got, ok)
		}
	}
	if got, ok := impl.AuditRead(""); !ok || len(got) != 0 {
		t.Error("the empty text")
	}
	sum := wantList("", "1", "acme", "plan", " x ")
	if got, ok := impl.AuditRead("1 acme plan " + sum + "  x \n"); !ok || got[0] != (impl.AuditEntry{Seq: 1, Tenant: "acme", What: "plan", Detail: " x ", Sum: sum}) {
		t.Error("spaces around a detail:", got)
	}
}

// P35: no other text is read.
func TestAuditNoText(t *testing.T) {
	list := audit(someSaid()[:3]...)
	text := auditLines(list)
	each := strings.SplitAfter(text, "\n")
	first, other := list[0].Sum, list[1].Sum
	for i, none := range []string{
		"\n", " ", " \n", "    \n", "1\n", "1 acme\n", "1 acme tenant\n", "1 acme tenant " + first + "\n", "\n" + text, text + "\n", each[0] + "\n" + each[1], text[:len(text)-1], text + " ", " " + text, text + "4",
		"0" + text, "+" + text, "-" + text, "1" + text, "2" + text[1:], "0" + text[1:], text[1:], strings.Replace(text, "\n2 ", "\n02 ", 1), strings.Replace(text, "\n2 ", "\n3 ", 1), strings.Replace(text, "1 ", "1  ", 1), strings.Replace(text, "acme ", "acme  ", 1), strings.Replace(text, "tenant ", "tenant  ", 1),
		strings.Replace(text, first+" ", first+"  ", 1), strings.Replace(text, " ann", "ann", 1), strings.Replace(text, first, other, 1), strings.Replace(text, other, first, 1), strings.Replace(text, first, strings.ToUpper(first), 1), strings.Replace(text, first, "", 1),
		each[1] + each[0] + each[2], each[0] + each[2] + each[1], each[1] + each[2], each[0] + each[2], each[0] + each[0], text + each[2], text + text, strings.ReplaceAll(text, "\n", "\r\n"), strings.ReplaceAll(text, "\n", ""), strings.ReplaceAll(text, " ", "\t"),
		strings.Replace(text, "1 acme tenant", "1 tenant acme", 1), strings.Repeat(" ", 1<<20), strings.Repeat("\n", 1<<20), strings.Repeat("1 ", 1<<20), strings.Repeat(text, 1000),
	} {
		if got, ok := impl.AuditRead(none); got != nil || ok {
			t.Errorf("case %d, %.200q, is read", i, none)
		}
	}
	for n := range len(text) {
		if _, ok := impl.AuditRead(text[:n]); ok != (n == 0 || text[n-1] == '\n') {
			t.Errorf("the first %d bytes: %v", n, ok)
		}
	}
}

// P35, by chance, against the model.
func TestAuditAny(t *testing.T) {
	r := rand.New(rand.NewSource(91))
	text, read := auditLines(audit(someSaid()[:4]...)), 0
	for range 20000 {
		one := spoilText(r, text, "0123 az-\n~\x7f")
		got, ok := impl.AuditRead(one)
		want, wantOk := modelAuditRead(one)
		if ok != wantOk || !slices.Equal(got, want) || ok && impl.AuditWrite(got) != one {
			t.Fatalf("%q: %v, %v", one, got, ok)
		}
		if ok {
			read++
		}
	}
	if read == 0 {
		t.Error("nothing was read")
	}
	for range 5000 {
		var list []said
		for range r.Intn(5) {
			list = append(list, said{[]string{"acme", "beta", "b", "", "B"}[max(0, r.Intn(40)-35)], "plan", spoilText(r, "a detail", " ~x\x7f\x1f\n")})
		}
		all := audit(list...)
		if impl.AuditOk(all) != modelAudit(all) {
			t.Errorf("%v: %v", all, impl.AuditOk(all))
		}
	}
}
