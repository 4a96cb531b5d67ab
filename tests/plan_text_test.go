package tests

import (
	"crypto/sha256"
	"encoding/hex"
	"math/rand"
	"slices"
	"strings"
	"testing"

	"loop.example/portreeve/impl"
)

// goodPlans is plans that have a text, of each Kind and at each limit.
func goodPlans() [][]impl.Act {
	none := object("")
	return [][]impl.Act{
		nil, {{Kind: 1, Id: "vm.a", Attrs: none}}, {{Kind: 2, Id: "vm.a", Attrs: none}}, {{Kind: 3, Id: "vm.a", Attrs: none}}, {{Kind: 4, Id: "vm.a", Attrs: none}},
		{{Kind: 1, Id: "vm.a", Attrs: none, Needs: []string{"vm.b"}}}, {{Kind: 2, Id: "vm.a", Attrs: none, Needs: []string{"a.a", "vm.a", "vm.b"}}}, {{Kind: 3, Id: "abcdefg.abcdefg", Attrs: object("a", unknown()), Needs: []string{"if.not"}}},
		{{Kind: 1, Id: "vm.a", Attrs: object("a b c d e", null(), words("} x.y \\"), list(unknown(), object("")), words(" "), words("a  b"))}}, {{Kind: 1, Id: "vm.a", Attrs: object("id0", words("\\n"))}},
		{{Kind: 4, Id: "vm.a", Attrs: none}, {Kind: 4, Id: "vm.a", Attrs: none}, {Kind: 1, Id: "vm.a", Attrs: none}, {Kind: 2, Id: "a.b", Attrs: object("zone", words("eu")), Needs: []string{"vm.a"}}},
		longPlan(4000), longPlan(3999),
	}
}

// longPlan has so many bytes when written, 2940 to 4200.
func longPlan(size int) []impl.Act {
	var acts []impl.Act
	more := size - 210*len("create a.b {}\n")
	for range 210 {
		n := min(more, 6)
		acts, more = append(acts, impl.Act{Kind: impl.ActCreate, Id: "a.b" + strings.Repeat("x", n), Attrs: object("")}), more-n
	}
	return acts
}

// P25: PlanRead of PlanWrite is the plan.
func TestPlanWrittenIsRead(t *testing.T) {
	seen := map[string]bool{}
	for i, acts := range goodPlans() {
		text := impl.PlanWrite(acts)
		if text != planText(acts) || seen[text] || text == "" && len(acts) > 0 {
			t.Errorf("plan %d is written %.80q", i, text)
		}
		seen[text] = true
		if got, ok := impl.PlanRead(text); !ok || !sameActs(got, acts) {
			t.Errorf("%.80q is read as %v, %v", text, got, ok)
		}
		checkDigest(t, acts, text)
	}
	for _, size := range []int{3999, 4000, 4001, 4002} {
		n := 0
		for _, a := range longPlan(size) {
			n += len(planText([]impl.Act{a}))
		}
		if n != size {
			t.Error("the test is wrong:", n)
		}
	}
	for i, a := range badActs() {
		for _, acts := range [][]impl.Act{{a}, {act("delete vm.a"), a}, {a, act("delete vm.a")}} {
			if text, sum := impl.PlanWrite(acts), impl.PlanDigest(acts); text != "" || sum != "" {
				t.Errorf("bad act %d is written %.80q, its sum %q", i, text, sum)
			}
		}
	}
	needy := impl.Act{Kind: 1, Id: "vm.a", Attrs: object("")}
	for i := range 1000 {
		needy.Needs = append(needy.Needs, "a.b"+string(rune('a'+i/676))+string(rune('a'+i/26%26))+string(rune('a'+i%26)))
	}
	for i, acts := range [][]impl.Act{longPlan(4001), longPlan(4002), append(longPlan(4000), impl.Act{}), slices.Repeat(longPlan(4000), 50), {needy}} {
		if text, sum := impl.PlanWrite(acts), impl.PlanDigest(acts); text != "" || sum != "" {
			t.Errorf("too long %d is written %.80q, its sum %q", i, text, sum)
		}
	}
}

// checkDigest holds PlanDigest against the library's SHA-256.
func checkDigest(t *testing.T, acts []impl.Act, text string) {
	t.Helper()
	sum := sha256.Sum256([]byte(text))
	if got := impl.PlanDigest(acts); got != hex.EncodeToString(sum[:]) {
		t.Errorf("the digest of %.80q is %q", text, got)
	}
}

// P25: what PlanRead reads PlanWrite writes; the others have nothing and false.
func TestPlanReadIsWritten(t *testing.T) {
	long := planText(longPlan(4000))
	for _, c := range []struct {
		ok    bool
		texts []string
	}{
		{true, []string{"", "create a.b {}\n", "update a.b {}\n", "replace a.b {}\n", "delete a.b\n", "create a.b {} c.d\n", "create a.b {} a.b\n", "create a.b {} c.d c.e\n", "delete a.b\ndelete a.b\n", `create a.b {x:"} c.d"} c.d` + "\n", `create a.b {x:"  "}` + "\n", "create a.b {x:[1,{}],y:?}\n", long}},
		{false, []string{"\n", " ", " \n", "create a.b {}", "create a.b {}\n\n", "\ncreate a.b {}\n", "create a.b {}\ndelete a.b", "create a.b {}\n ", "create a.b {}\r\n", "create a.b {}\x00\n", long + "\n", planText(longPlan(3999)) + "x", long + "delete a.b\n", strings.Repeat("delete a.b\n", 400), strings.Repeat("x", 1<<20)}},
		{false, []string{" create a.b {}\n", "create  a.b {}\n", "create a.b  {}\n", "create a.b {} \n", "create a.b {}  c.d\n", "create a.b {} c.d \n", "create a.b {} c.d  c.e\n", "create\ta.b {}\n", "create a.b {}\tc.d\n", "create a.b {}c.d\n", "create a.b{}\n", "createa.b {}\n", "create a.b {} c.d\tc.e\n", "create a.b { }\n", "create a.b {x:1, y:2}\n", "delete a.b \n", "delete  a.b\n"}},
		{false, []string{"create\n", "create \n", "create a.b\n", "create a.b \n", "update a.b\n", "replace a.b\n", "delete\n", "delete \n", "delete a.b {}\n", "delete a.b c.d\n", "delete a.b {} c.d\n", "delete a.b {x:1}\n", "make a.b {}\n", "Create a.b {}\n", "creates a.b {}\n", "a.b {}\n", "create a.b c.d\n", "create {} a.b\n"}},
		{false, []string{"create a {}\n", "create a. {}\n", "create .b {}\n", "create a.b.c {}\n", "create A.b {}\n", "create abcdefgh.b {}\n", "delete a\n", "delete a.B\n", "create a.b {} c\n", "create a.b {} c.d e\n", "create a.b {} C.d\n", "create a.b {} c.e c.d\n", "create a.b {} c.d c.d\n", "create a.b {} {}\n", "create a.b {} 1\n"}},
		{false, []string{"create a.b 1\n", "create a.b null\n", "create a.b ?\n", "create a.b []\n", "create a.b \"x\"\n", "create a.b {id:1}\n", "create a.b {id:?}\n", "create a.b {a:1,id:\"i\"}\n", "create a.b {x}\n", "create a.b {x:}\n", "create a.b {x:1\n", "create a.b x:1}\n", "create a.b {x:01}\n", "create a.b {y:1,x:1}\n", "create a.b {x:1000000}\n", "create a.b {x:[[[]]]}\n", "create a.b {x:\"\n\"}\n", "create a.b {x:\"}\n", "create a.b {}}\n", "create a.b {a:1,b:1,c:1,d:1,e:1,f:1}\n"}},
	} {
		for _, text := range c.texts {
			acts, ok := impl.PlanRead(text)
			if ok != c.ok || ok && impl.PlanWrite(acts) != text || !ok && acts != nil {
				t.Errorf("%.80q is read as %v, %v", text, acts, ok)
			}
		}
	}
}

// P25, over plans made by chance, and their texts, spoilt; two of them have one digest just if they have one text.
func TestPlanTextModel(t *testing.T) {
	r := rand.New(rand.NewSource(25))
	sums := map[string]string{}
	for range 1500 {
		acts, _ := impl.PlanMake(anyConf(r), nil, anyState(r))
		if r.Intn(3) == 0 && len(acts) > 0 {
			acts[r.Intn(len(acts))] = anyAct(r, acts)
		}
		text := impl.PlanWrite(acts)
		if text != planText(acts) {
			t.Fatalf("%v is written %q", acts, text)
		}
		sum := impl.PlanDigest(acts)
		if text == "" && len(acts) > 0 {
			if sum != "" {
				t.Fatalf("%v: its sum is %s", acts, sum)
			}
			continue
		}
		if got, ok := impl.PlanRead(text); !ok || !sameActs(got, acts) {
			t.Fatalf("%q is read as %v, %v", text, got, ok)
		}
		if other, ok := sums[sum]; ok && other != text {
			t.Fatalf("%q and %q have one digest", other, text)
		}
		sums[sum] = text
		spoilt := spoilPlan(r, text)
		if got, ok := impl.PlanRead(spoilt); ok && (impl.PlanWrite(got) != spoilt || impl.PlanDigest(got) == sum && spoilt != text) || !ok && got != nil {
			t.Fatalf("%q is read as %v, %v", spoilt, got, ok)
		}
	}
	texts := map[string]bool{}
	for _, text := range sums {
		texts[text] = true
	}
	if len(texts) != len(sums) || len(texts) < 500 {
		t.Errorf("%d texts have %d digests", len(texts), len(sums))
	}
}

// spoilPlan is a text with a byte more, less, or another one.
func spoilPlan(r *rand.Rand, text string) string {
	if text == "" {
		return "\n"
	}
	at := r.Intn(len(text))
	more := []string{" ", "\n", "a", "{", "}", "?", "1", ".", "\""}[r.Intn(9)]
	switch r.Intn(3) {
	case 0:
		return text[:at] + text[at+1:]
	case 1:
		return text[:at] + more + text[at:]
	}
	return text[:at] + more + text[at+1:]
}

func TestStateWrite(t *testing.T) {
	_, state := two()
	for _, c := range []struct {
		state []impl.Thing
		want  string
	}{
		{nil, ""}, {[]impl.Thing{}, ""}, {state, lines(`net.b {id:"i-1",zone:"eu"}`, `vm.a {id:"i-2",link:"i-1",size:2} net.b`)}, {beings(being("a.b", `{id:""}`, "c.d", "e.f")), lines(`a.b {id:""} c.d e.f`)}, {manyThings(11), ""}, {beings(being("vm.a", "{id:?}")), ""}, {beings(being("vm.a", `{id:"i"}`, "vm.a")), ""},
	} {
		if got := impl.StateWrite(c.state); got != c.want {
			t.Errorf("%q, not %q", got, c.want)
		}
	}
	if got := strings.Count(impl.StateWrite(manyThings(10)), "\n"); got != 10 {
		t.Error("ten things have", got, "lines")
	}
}

// Answers are new memory, of which no two lists share any, and arguments stay as they are.
func TestPlanMemory(t *testing.T) {
	list := conf("thing vm.a", "  link @net.b.id", "  tags list 1 @net.b.id", "end", "thing net.b", "end")
	state := append(make([]impl.Thing, 0, 8), being("net.b", `{id:"i-1"}`), being("vm.a", `{id:"i-2",tags:["x"]}`, "net.b"), being("vm.c", `{id:"i-3",tags:["y"]}`, "vm.a"))
	behind := state[:4]
	acts, _ := impl.PlanMake(list, nil, state)
	before, plain := impl.StateWrite(state), planText(acts)
	given := strings.Repeat("g", 4)
	for _, c := range []struct {
		what string
		do   func() ([]impl.Thing, int)
		code int
	}{
		{"an update", func() ([]impl.Thing, int) { return impl.PlanDo(list, nil, state, acts[0], given) }, 0},
		{"a replacement", func() ([]impl.Thing, int) {
			return impl.PlanDo(list, nil, state, impl.Act{Kind: 3, Id: "vm.a", Attrs: acts[0].Attrs, Needs: acts[0].Needs}, given)
		}, 0},
		{"a deletion", func() ([]impl.Thing, int) { return impl.PlanDo(list, nil, state, acts[1], given) }, 0},
		{"a creation", func() ([]impl.Thing, int) {
			return impl.PlanDo(append(list[:2:2], thing("a.a")), nil, state, act("create a.a {}"), given)
		}, 0},
		{"nothing to update", func() ([]impl.Thing, int) { return impl.PlanDo(list, nil, state, act("update net.b {}"), given) }, 0},
		{"a code", func() ([]impl.Thing, int) { return impl.PlanDo(list, nil, state, act("delete vm.z"), given) }, 2},
		{"a fault", func() ([]impl.Thing, int) { return impl.PlanDo(blocks(let("m", "not 1")), nil, state, acts[0], given) }, 4},
		{"no acts", func() ([]impl.Thing, int) { return impl.PlanAll(list, nil, state, nil, nil) }, 0},
		{"all", func() ([]impl.Thing, int) { return impl.PlanAll(list, nil, state, acts, []string{given}) }, 2},
	} {
		got, code := c.do()
		if code != c.code {
			t.Errorf("%s: %d", c.what, code)
		}
		for i, one := range got {
			for _, old := range append(slices.Clone(state), list2things(acts)...) {
				if shares(one.Id, old.Id) || len(one.Needs) > 0 && len(old.Needs) > 0 && (&one.Needs[0] == &old.Needs[0] || shares(one.Needs[0], old.Needs[0])) {
					t.Errorf("%s: %s shares memory with an argument", c.what, one.Id)
				}
			}
			got[i].Attrs.Names[0], got[i].Attrs.Kids[0] = "x", null()
			if n := len(one.Attrs.Kids); n > 1 && len(one.Attrs.Kids[n-1].Kids) > 0 {
				one.Attrs.Kids[n-1].Kids[0] = null()
			}
			if len(one.Needs) > 0 {
				one.Needs[0] = "x"
			}
		}
		if impl.StateWrite(state) != before || planText(acts) != plain || behind[3].Id != "" {
			t.Fatalf("%s: an argument is changed", c.what)
		}
	}
}

// list2things is acts taken for things, to look at what they are made of.
func list2things(acts []impl.Act) []impl.Thing {
	var all []impl.Thing
	for _, a := range acts {
		all = append(all, impl.Thing{Id: a.Id, Attrs: a.Attrs, Needs: a.Needs})
	}
	return all
}

// No text of an answer lies within one of an argument.
func TestPlanTextMemory(t *testing.T) {
	text := lines(`create a.b {x:"abc"} c.d e.f`)
	acts, _ := impl.PlanRead(text)
	for _, part := range []string{acts[0].Id, acts[0].Attrs.Names[0], acts[0].Attrs.Kids[0].Text, acts[0].Needs[0], acts[0].Needs[1]} {
		if shares(part, text) {
			t.Errorf("%s lies within what was read", part)
		}
	}
	list, state := two()
	made, _ := impl.PlanMake(list, nil, state[:1])
	gone, _ := impl.PlanMake(nil, nil, state)
	if shares(made[0].Id, list[0].Id) || shares(made[0].Needs[0], list[0].Attrs[0].Expr.Text) || shares(made[0].Attrs.Names[0], list[0].Attrs[0].Name) || shares(made[0].Attrs.Kids[0].Text, state[0].Attrs.Kids[0].Text) || shares(gone[0].Id, state[1].Id) {
		t.Error("a text lies within an argument")
	}
	given := strings.Repeat("g", 3)
	after, _ := impl.PlanDo(list, nil, nil, act(`create net.b {zone:"eu"}`), given)
	if shares(idOf(after[0]), given) {
		t.Error("the id that was given lies within an argument")
	}
	made[0].Attrs.Kids[0], made[0].Needs[0] = null(), "x"
	if again, _ := impl.PlanMake(list, nil, state[:1]); planText(again) != lines(`create vm.a {link:"i-1",size:2} net.b`) {
		t.Error("two answers share memory")
	}
}
