package tests

import (
	"math/rand"
	"slices"
	"strings"
	"testing"

	"loop.example/portreeve/impl"
)

// Seals are those that the document's words make.
func TestCapSeals(t *testing.T) {
	c, ok := impl.CapMint(someKey, "acme", "prod", 3, 5, 9)
	if !ok || !sameCap(c, grant()) || c.Seal != impl.HashMac(someKey, "acme prod 3 5 9") {
		t.Fatal(c, ok)
	}
	limits := []string{"only vm.a", "until 7", "until 7", "until 0"}
	for i, limit := range limits {
		next, ok := impl.CapNarrow(c, limit)
		if !ok || !sameCap(next, grant(limits[:i+1]...)) || next.Seal != impl.HashMac(c.Seal, limit) {
			t.Fatal(i, next, ok)
		}
		c = next
	}
	for _, key := range []string{"", "\x00", strings.Repeat("k", 64), strings.Repeat("k", 65), "é\xff\n"} {
		c, ok := impl.CapMint(key, "a", "b", 1, 0, 0)
		if !ok || c.Seal != wantMac(key, "a b 1 0 0") || !impl.CapMay(key, c, "a", "b", 1, "x.y", 0) {
			t.Errorf("by %q: %v, %v", key, c, ok)
		}
	}
}

// P36: it lets just what it was made for.
func TestCapMay(t *testing.T) {
	c := grant()
	if !impl.CapMay(someKey, c, "acme", "prod", 3, "vm.a", 5) {
		t.Fatal("nothing is let")
	}
	for _, key := range []string{"", "the ke", "the key ", "The key", "the kez", c.Seal} {
		if impl.CapMay(key, c, "acme", "prod", 3, "vm.a", 5) {
			t.Errorf("by the key %q", key)
		}
	}
	for _, x := range []struct {
		tenant, space string
		run           int
	}{{"beta", "prod", 3}, {"acm", "prod", 3}, {"acmes", "prod", 3}, {"", "prod", 3}, {"Acme", "prod", 3}, {"acme", "test", 3}, {"acme", "pro", 3}, {"acme", "", 3}, {"prod", "acme", 3}, {"acme", "prod", 4}, {"acme", "prod", 2}, {"acme", "prod", 0}, {"acme", "prod", -3}, {"acme prod", "", 3}} {
		if impl.CapMay(someKey, c, x.tenant, x.space, x.run, "vm.a", 5) {
			t.Errorf("for %v", x)
		}
	}
	for now, want := range map[int]bool{4: false, 5: true, 6: true, 8: true, 9: true, 10: false, 0: false, -5: false, -1 << 63: false, 1<<63 - 1: false} {
		if impl.CapMay(someKey, c, "acme", "prod", 3, "vm.a", now) != want {
			t.Errorf("at %d", now)
		}
	}
	for id, want := range map[string]bool{"vm.a": true, "a.b": true, "abcdefg.a234567": true, "": false, "vm": false, "vm.": false, ".a": false, ".": false, "vm.a.b": false, "vm..a": false, "vm a": false, "vm.a ": false, " vm.a": false, "Vm.a": false, "vm.1": false, "abcdefgh.a": false, "vm.a\n": false, "a.abcdefgh": false, strings.Repeat("a", 1<<20): false} {
		if impl.CapMay(someKey, c, "acme", "prod", 3, id, 5) != want {
			t.Errorf("%.20q: not %v", id, want)
		}
	}
}

// lets is what a credential lets, of some things at some ticks, in its tenant, space and run.
func lets(c impl.Cap) string {
	text := ""
	for now := range 12 {
		for _, id := range []string{"vm.a", "vm.b", "vm.ab", "a.vm", "vm"} {
			text += map[bool]string{true: "1", false: "0"}[impl.CapMay(someKey, c, c.Tenant, c.Space, c.Run, id, now)]
		}
	}
	return text
}

func letsNothing(c impl.Cap) bool { return !strings.Contains(lets(c), "1") }

// P37: what is changed by hand lets nothing.
func TestCapForged(t *testing.T) {
	for what, change := range map[string]func(c *impl.Cap){
		"until later":     func(c *impl.Cap) { c.Until++ },
		"until earlier":   func(c *impl.Cap) { c.Until-- },
		"from later":      func(c *impl.Cap) { c.From++ },
		"from earlier":    func(c *impl.Cap) { c.From-- },
		"run":             func(c *impl.Cap) { c.Run++ },
		"run before":      func(c *impl.Cap) { c.Run-- },
		"tenant":          func(c *impl.Cap) { c.Tenant = "beta" },
		"tenant longer":   func(c *impl.Cap) { c.Tenant += "x" },
		"space":           func(c *impl.Cap) { c.Space = "test" },
		"both":            func(c *impl.Cap) { c.Tenant, c.Space = c.Space, c.Tenant },
		"figures moved":   func(c *impl.Cap) { c.Run, c.From, c.Until = 35, 9, 9 },
		"seal":            func(c *impl.Cap) { c.Seal = c.Seal[1:] + c.Seal[:1] },
		"capital seal":    func(c *impl.Cap) { c.Seal = strings.ToUpper(c.Seal) },
		"no seal":         func(c *impl.Cap) { c.Seal = "" },
		"seal shorter":    func(c *impl.Cap) { c.Seal = c.Seal[:63] },
		"seal longer":     func(c *impl.Cap) { c.Seal += "0" },
		"seal of noughts": func(c *impl.Cap) { c.Seal = strings.Repeat("0", 64) },
		"other key":       func(c *impl.Cap) { c.Seal = modelSeal("other", *c) },
		"empty key":       func(c *impl.Cap) { c.Seal = modelSeal("", *c) },
		"a limit more":    func(c *impl.Cap) { c.Limits = append(slices.Clone(c.Limits), "until 9") },
		"a limit ahead":   func(c *impl.Cap) { c.Limits = append([]string{"until 9"}, c.Limits...) },
	} {
		for _, c := range []impl.Cap{grant(), grant("only vm.a"), grant("until 7", "only vm.a")} {
			if letsNothing(c) {
				t.Fatal("nothing is let")
			}
			change(&c)
			if !letsNothing(c) {
				t.Errorf("%s: lets something", what)
			}
		}
	}
}

// P37: no limit can be taken off, or be put elsewhere; not even if the seal is made of all that is seen.
func TestCapLimitTakenOff(t *testing.T) {
	for _, limits := range [][]string{{"only vm.a"}, {"until 7"}, {"until 9", "until 8"}, {"until 7", "only vm.a", "until 6"}, {"until 7", "until 7", "until 7"}, {"only vm.a", "until 8", "only vm.a", "until 9"}} {
		c := grant(limits...)
		if letsNothing(c) {
			t.Fatal("nothing is let by", limits)
		}
		for i := range limits {
			less := c
			less.Limits = slices.Delete(slices.Clone(limits), i, i+1)
			if !letsNothing(less) {
				t.Errorf("%q without the one at %d", limits, i)
			}
			for _, seal := range []string{impl.HashMac(c.Seal, limits[i]), impl.HashMac(c.Seal, strings.Join(less.Limits, "")), impl.HashMac("", limits[i]), modelSeal(c.Seal, less)} {
				if less.Seal = seal; !letsNothing(less) {
					t.Errorf("%q without the one at %d, sealed anew", limits, i)
				}
			}
			for k := range i {
				if limits[i] != limits[k] {
					turned := c
					turned.Limits = slices.Clone(limits)
					turned.Limits[i], turned.Limits[k] = limits[k], limits[i]
					if !letsNothing(turned) {
						t.Errorf("%q with %d and %d in each other's place", limits, i, k)
					}
				}
			}
		}
		c.Limits = nil
		if !letsNothing(c) {
			t.Errorf("%q without all", limits)
		}
	}
}

// limitEdges is texts, and whether each is a limit.
func limitEdges() map[string]bool {
	edges := map[string]bool{}
	for _, good := range []string{"until 0", "until 1", "until 7", "until 10", "until 99999", "until 999999", "only vm.a", "only a.b", "only abcdefg.a234567", "only until.only"} {
		edges[good] = true
	}
	for _, bad := range []string{"", " ", "until", "until ", "until  7", "until 7 ", " until 7", "until 07", "until 00", "until -0", "until -1", "until +7", "until 1000000", "until 9999999", "until 99999999999999999999", "until 7.0", "until 7x", "until x", "until vm.a", "until 7;", "until 7;until 8", "until\t7", "until 7\n", "Until 7", "until 0x7", "until 1_0", "until ٧",
		"only", "only ", "only vm", "only vm.", "only .a", "only vm.a ", "only  vm.a", " only vm.a", "only vm.a.b", "only Vm.a", "only 7", "only vm.abcdefgh", "only vm.a vm.b", "only vm.a;", "only vm.a\n", "onlyvm.a", "until7", "vm.a", "7", "from 7", "not vm.a", "only vm.é", "until " + strings.Repeat("0", 1<<16), "only " + strings.Repeat("a", 1<<20)} {
		edges[bad] = false
	}
	return edges
}

// P38: each limit is let in by its form alone, and holds then.
func TestCapNarrow(t *testing.T) {
	for limit, want := range limitEdges() {
		for _, c := range []impl.Cap{grant(), grant("until 7"), grant("only vm.a", "until 8", "until 8")} {
			got, ok := impl.CapNarrow(c, limit)
			if ok != want || ok != limitForm.MatchString(limit) || ok && !sameCap(got, grant(append(slices.Clone(c.Limits), limit)...)) || !ok && !sameCap(got, impl.Cap{}) {
				t.Errorf("%q narrowed by %.40q: %v", c.Limits, limit, ok)
			}
			with := grant(append(slices.Clone(c.Limits), limit)...)
			if (impl.CapWrite(with) != "") != want || want && impl.CapWrite(with) != capText(with) || !want && !letsNothing(with) {
				t.Errorf("%q with %.40q, which is a limit: %v", c.Limits, limit, want)
			}
		}
	}
	full := grant("until 9", "until 9", "until 9", "until 9")
	if letsNothing(full) {
		t.Error("of four limits: nothing is let")
	}
	if got, ok := impl.CapNarrow(full, "until 9"); ok || !sameCap(got, impl.Cap{}) {
		t.Error("a fifth limit")
	}
	if five := grant("until 9", "until 9", "until 9", "until 9", "until 9"); !letsNothing(five) || impl.CapWrite(five) != "" {
		t.Error("five limits let something")
	}
}

// P38: at the limit's tick and behind it, of its thing and of others.
func TestCapLimits(t *testing.T) {
	for _, x := range []struct {
		limits   []string
		from, to int
		id       string
	}{
		{nil, 5, 9, ""}, {[]string{"until 7"}, 5, 7, ""}, {[]string{"until 5"}, 5, 5, ""}, {[]string{"until 4"}, 5, 4, ""}, {[]string{"until 0"}, 5, 4, ""}, {[]string{"until 9"}, 5, 9, ""}, {[]string{"until 10"}, 5, 9, ""}, {[]string{"until 999999"}, 5, 9, ""},
		{[]string{"only vm.a"}, 5, 9, "vm.a"}, {[]string{"only vm.b", "until 6"}, 5, 6, "vm.b"}, {[]string{"until 8", "until 6"}, 5, 6, ""}, {[]string{"until 6", "until 8"}, 5, 6, ""}, {[]string{"only vm.a", "only vm.b"}, 5, 9, "none"}, {[]string{"only vm.a", "only vm.a"}, 5, 9, "vm.a"},
		{[]string{"only vm.c"}, 5, 9, "none"}, {[]string{"until 9", "only vm.ab", "until 8", "until 7"}, 5, 7, "vm.ab"}, {[]string{"until 9", "until 9", "until 9", "only a.vm"}, 5, 9, "a.vm"},
	} {
		for now := range 12 {
			for _, id := range []string{"vm.a", "vm.b", "vm.ab", "a.vm"} {
				want := now >= x.from && now <= x.to && (x.id == "" || x.id == id)
				if impl.CapMay(someKey, grant(x.limits...), "acme", "prod", 3, id, now) != want {
					t.Errorf("%q: %s at %d is not %v", x.limits, id, now, want)
				}
			}
		}
	}
}

// P38, P72: what is narrowed lets no more, and by the same limit again just the same, under another seal.
func TestCapNarrowedTwice(t *testing.T) {
	for _, c := range []impl.Cap{grant(), grant("until 8"), grant("only vm.a"), grant("until 8", "only vm.b")} {
		for _, limit := range []string{"until 0", "until 4", "until 5", "until 7", "until 9", "until 999999", "only vm.a", "only vm.b", "only z.z"} {
			once, ok := impl.CapNarrow(c, limit)
			twice, again := impl.CapNarrow(once, limit)
			if !ok || !again {
				t.Fatal(c.Limits, limit)
			}
			for i, one := range []byte(lets(once)) {
				if one == '1' && lets(c)[i] != '1' {
					t.Errorf("%q narrowed by %q lets more", c.Limits, limit)
				}
			}
			if lets(once) != lets(twice) || once.Seal == twice.Seal || c.Seal == once.Seal || c.Seal == twice.Seal || len(twice.Limits) != len(c.Limits)+2 {
				t.Errorf("%q narrowed by %q twice", c.Limits, limit)
			}
		}
	}
}

// badCaps is credentials that are not ok, all else but the one thing being right.
func badCaps() map[string]impl.Cap {
	bad := map[string]impl.Cap{"nothing": {}}
	for _, name := range []string{"", "-", "Acme", "1a", "abcdefgh", "a b", "a;b", "a\n", "é", strings.Repeat("a", 1<<16)} {
		bad["tenant "+name] = sealed(impl.Cap{Tenant: name, Space: "prod", Run: 3, From: 5, Until: 9})
		bad["space "+name] = sealed(impl.Cap{Tenant: "acme", Space: name, Run: 3, From: 5, Until: 9})
	}
	for what, x := range map[string][3]int{"run 0": {0, 5, 9}, "run below": {-1, 5, 9}, "run 10000": {10000, 5, 9}, "run least": {-1 << 63, 5, 9}, "from below": {3, -1, 9}, "from late": {3, 10, 9}, "from too late": {3, 1000000, 1000000}, "until below": {3, -2, -1}, "until too late": {3, 5, 1000000}, "until before": {3, 5, 4}, "until greatest": {3, 5, 1<<63 - 1}} {
		bad[what] = sealed(impl.Cap{Tenant: "acme", Space: "prod", Run: x[0], From: x[1], Until: x[2]})
	}
	for limit, good := range limitEdges() {
		if !good {
			bad["limit "+limit] = grant(limit)
			bad["second limit "+limit] = grant("until 7", limit)
		}
	}
	bad["five limits"] = grant("until 9", "until 9", "until 9", "until 9", "until 9")
	bad["many limits"] = grant(slices.Repeat([]string{"until 9"}, 1000)...)
	seal := grant().Seal
	for _, text := range []string{"", seal[:63], seal + "0", strings.ToUpper(seal), "g" + seal[1:], seal[:63] + " ", "A" + seal[1:], seal[:63] + "F", seal[:62] + "é", seal[:63] + "\n", strings.Repeat("0", 1<<16)} {
		c := grant()
		c.Seal = text
		bad["seal "+text] = c
	}
	return bad
}

// What is not ok lets nothing, is not narrowed, and has no text.
func TestCapBad(t *testing.T) {
	for what, c := range badCaps() {
		if impl.CapWrite(c) != "" || modelCap(c) {
			t.Errorf("%.40q is written", what)
		}
		if impl.CapMay(someKey, c, c.Tenant, c.Space, c.Run, "vm.a", max(c.From, 0)) {
			t.Errorf("%.40q lets something", what)
		}
		if got, ok := impl.CapNarrow(c, "until 7"); ok || !sameCap(got, impl.Cap{}) {
			t.Errorf("%.40q is narrowed", what)
		}
		if got, ok := impl.CapRead(capText(c)); ok && capText(got) != capText(c) || ok != modelOkRead(capText(c)) || !ok && !sameCap(got, impl.Cap{}) {
			t.Errorf("%.40q is read", what)
		}
	}
}

// modelOkRead says whether the model reads a text, as that of a credential that is not ok may be that of one that is.
func modelOkRead(text string) bool {
	_, ok := modelCapRead(text)
	return ok
}

// P39: what is made is for all that it was made for, at the edges of what there is.
func TestCapMint(t *testing.T) {
	for _, x := range []struct {
		tenant, space    string
		run, from, until int
		ok               bool
	}{
		{"acme", "prod", 1, 0, 0, true}, {"a", "a234567", 9999, 999999, 999999, true}, {"acme", "prod", 9999, 0, 999999, true}, {"acme", "acme", 1, 5, 5, true}, {"acme", "prod", 1, 5, 4, false}, {"acme", "prod", 1, 0, -1, false},
		{"acme", "prod", 0, 5, 9, false}, {"acme", "prod", -1, 5, 9, false}, {"acme", "prod", 10000, 5, 9, false}, {"acme", "prod", 1, -1, 9, false}, {"acme", "prod", 1, -1, -1, false}, {"acme", "prod", 1, 0, 1000000, false}, {"acme", "prod", 1, 1000000, 1000000, false}, {"acme", "prod", 1, 999999, 1000000, false},
		{"", "prod", 1, 5, 9, false}, {"acme", "", 1, 5, 9, false}, {"-", "prod", 1, 5, 9, false}, {"Acme", "prod", 1, 5, 9, false}, {"acme", "Prod", 1, 5, 9, false}, {"abcdefgh", "prod", 1, 5, 9, false}, {"acme", "abcdefgh", 1, 5, 9, false}, {"acme x", "prod", 1, 5, 9, false}, {"acme", "1", 1, 5, 9, false}, {"acme", "prod", 1 << 62, -1 << 63, 1<<63 - 1, false},
	} {
		c, ok := impl.CapMint(someKey, x.tenant, x.space, x.run, x.from, x.until)
		want := sealed(impl.Cap{Tenant: x.tenant, Space: x.space, Run: x.run, From: x.from, Until: x.until})
		if ok != x.ok || ok && !sameCap(c, want) || !ok && !sameCap(c, impl.Cap{}) || ok != modelCap(want) {
			t.Errorf("%v: %v, %v", x, c, ok)
		}
		for now, let := range map[int]bool{x.from: ok, x.until: ok, x.from - 1: false, x.until + 1: false} {
			if impl.CapMay(someKey, c, x.tenant, x.space, x.run, "vm.a", now) != let || ok && impl.CapMay(someKey, want, x.tenant, x.space, x.run, "vm.a", now) != let {
				t.Errorf("%v at %d: not %v", x, now, let)
			}
		}
	}
}

// P39, with as many limits as there may be.
func TestCapText(t *testing.T) {
	limits := []string{"only vm.a", "until 0", "until 999999", "only abcdefg.a234567"}
	for n := range 5 {
		c := grant(limits[:n]...)
		text := impl.CapWrite(c)
		if text != capText(c) || strings.Count(text, ";") != n {
			t.Errorf("%v is written %q", c, text)
		}
		got, ok := impl.CapRead(text)
		if !ok || !sameCap(got, c) || impl.CapWrite(got) != text {
			t.Errorf("%q is read as %v, %v", text, got, ok)
		}
	}
	odd := impl.Cap{Tenant: "a", Space: "b", Run: 1, Limits: []string{"until 0"}, Seal: strings.Repeat("f", 64)}
	if got, ok := impl.CapRead("a b 1 0 0 " + odd.Seal + ";until 0"); !ok || !sameCap(got, odd) {
		t.Error("a seal that is not right is none the less read:", got, ok)
	}
}

// P39: no other text is read.
func TestCapNoText(t *testing.T) {
	seal := grant().Seal
	for _, head := range []string{"acme prod 3 5", "acme prod 3 5 9 9", "acme prod 3 5 9 ", " acme prod 3 5 9", "acme  prod 3 5 9", "acme prod  3 5 9", "acme prod 03 5 9", "acme prod 3 05 9", "acme prod 3 5 09", "acme prod +3 5 9", "acme prod 3 -5 9", "acme prod 3 -0 9", "acme prod 0 5 9", "acme prod 10000 5 9", "acme prod 3 9 5", "acme prod 3 5 1000000", "acme prod 3 5 x", "acme prod x 5 9", "acme prod 3  9", "acme prod 3 5 99999999999999999999", "- prod 3 5 9", "acme - 3 5 9", "Acme prod 3 5 9", "acme abcdefgh 3 5 9", "prod 3 5 9", "acme prod 3 5 9;", "acme prod 3 5 9;until 7", "acme\tprod 3 5 9", "acme prod 3 5 9\n"} {
		for _, tail := range []string{"", ";until 7"} {
			if got, ok := impl.CapRead(head + " " + seal + tail); ok || !sameCap(got, impl.Cap{}) {
				t.Errorf("%q and a seal is read", head+tail)
			}
		}
	}
	for _, tail := range []string{seal + ";", seal + ";;until 7", seal + ";until 7;", seal + "; until 7", seal + ";until 7 ", seal + " ;until 7", seal + ",until 7", seal + ";until 07", seal + ";until 1000000", seal + ";until", seal + ";until 7;;only vm.a", seal + ";only vm", seal + ";until 7\n", seal + "\n", seal + " ", seal + ";" + strings.Repeat("until 7;", 1000), seal + strings.Repeat(";until 7", 5), seal + strings.Repeat(";", 1<<20),
		seal[:63], seal + "0", strings.ToUpper(seal), "G" + seal[1:], "", ";", ";until 7", seal[:63] + ";until 7", seal[:63] + "F", " " + seal, seal + " " + seal, seal + ";" + seal} {
		if got, ok := impl.CapRead("acme prod 3 5 9 " + tail); ok || !sameCap(got, impl.Cap{}) {
			t.Errorf("a head and %.200q is read", tail)
		}
	}
	for _, text := range []string{"", " ", ";", "      ", strings.Repeat(" ", 1<<20), strings.Repeat("a", 1<<20), strings.Repeat(";until 7", 1<<16)} {
		if got, ok := impl.CapRead(text); ok || !sameCap(got, impl.Cap{}) {
			t.Errorf("%.20q is read", text)
		}
	}
	for n, text := 0, capText(grant("until 7", "only vm.ab")); n < len(text); n++ {
		if _, ok := impl.CapRead(text[:n]); ok != modelOkRead(text[:n]) {
			t.Errorf("%q: %v", text[:n], ok)
		}
	}
}

// P36 to P39, by chance, against the model.
func TestCapAny(t *testing.T) {
	r := rand.New(rand.NewSource(101))
	limits := []string{"until 7", "until 6", "until 0", "only vm.a", "only vm.b", "until 999999", "until 07", "only vm"}
	pick := func(list ...string) string { return list[max(0, r.Intn(20)-20+len(list))] }
	read, let := 0, 0
	for range 4000 {
		c := impl.Cap{Tenant: pick("acme", "beta", ""), Space: pick("prod", "test", "Prod"), Run: 3 - max(0, r.Intn(20)-16), From: 5 - max(0, r.Intn(20)-13), Until: 9 - max(0, r.Intn(20)-13)}
		for range r.Intn(6) {
			c.Limits = append(c.Limits, limits[r.Intn(len(limits)-2+r.Intn(3))])
		}
		c = sealed(c)
		if r.Intn(10) == 0 {
			c.Seal = spoilText(r, c.Seal, "0aA ")
		}
		key, id, now := pick(someKey, "other"), pick("vm.a", "vm.b", "vm"), r.Intn(12)
		tenant, space, run := pick("acme", "beta"), pick("prod", "test"), 3-max(0, r.Intn(20)-18)
		want := modelMay(key, c, tenant, space, run, id, now)
		if impl.CapMay(key, c, tenant, space, run, id, now) != want || (impl.CapWrite(c) == capText(c)) != modelCap(c) {
			t.Errorf("%v for %s %s %d %s at %d: not %v", c, tenant, space, run, id, now, want)
		}
		text := spoilText(r, capText(c), "0123 ;az\n")
		got, ok := impl.CapRead(text)
		wanted, wantOk := modelCapRead(text)
		if ok != wantOk || !sameCap(got, wanted) || ok && impl.CapWrite(got) != text {
			t.Errorf("%q: %v, %v", text, got, ok)
		}
		if ok {
			read++
		}
		if want {
			let++
		}
	}
	if read < 20 || let < 20 {
		t.Error(read, "read,", let, "let")
	}
}
