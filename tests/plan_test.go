package tests

import (
	"fmt"
	"slices"
	"strings"
	"testing"

	"loop.example/portreeve/impl"
)

// planned is PlanMake's acts in lines without the last newline, or its fault.
func planned(list []impl.Block, inputs []impl.Var, state []impl.Thing) string {
	acts, f := impl.PlanMake(list, inputs, state)
	if f != evalFault(0, 0) {
		if acts != nil {
			return "not nothing"
		}
		return fmt.Sprint("fault ", f.Code, " at ", f.At)
	}
	return strings.TrimSuffix(strings.ReplaceAll(planText(acts), "\n", "; "), "; ")
}

// two is a thing that needs another one, and the state behind their plan.
func two() ([]impl.Block, []impl.Thing) {
	return conf("thing vm.a", "  link @net.b.id", "  size 2", "end", "thing net.b", "  zone \"eu\"", "end"),
		beings(being("net.b", `{id:"i-1",zone:"eu"}`), being("vm.a", `{id:"i-2",link:"i-1",size:2}`, "net.b"))
}

// P20, P66 and P67 by hand.
func TestPlanByHand(t *testing.T) {
	list, state := two()
	net, vm := state[0], state[1]
	us := conf("thing vm.a", "  link @net.b.id", "  size 2", "end", "thing net.b", "  zone \"us\"", "end")
	chain := beings(being("a.a", `{id:"1"}`, "b.b"), being("b.b", `{id:"2"}`), being("c.c", `{id:"3"}`, "a.a", "b.b", "z.z"), being("d.d", `{id:"4"}`))
	for _, c := range []struct {
		what  string
		list  []impl.Block
		state []impl.Thing
		want  string
	}{
		{"no state", list, nil, `create net.b {zone:"eu"}; create vm.a {link:?,size:2} net.b`}, {"nothing to do", list, state, ""}, {"nothing at all", nil, nil, ""},
		{"no blocks", nil, state, "delete vm.a; delete net.b"}, {"no blocks, and more needs", nil, chain, "delete d.d; delete c.c; delete a.a; delete b.b"}, {"some are to be", conf("thing b.b", "end"), chain, "delete d.d; delete c.c; delete a.a"}, {"no things", conf("input n 1", "output o n"), state, "delete vm.a; delete net.b"},
		{"another zone", us, state, `replace net.b {zone:"us"}; update vm.a {link:?,size:2} net.b`}, {"other needs alone", list, beings(net, being("vm.a", `{id:"i-2",link:"i-1",size:2}`)), `update vm.a {link:"i-1",size:2} net.b`}, {"more needs", list, beings(net, being("vm.a", `{id:"i-2",link:"i-1",size:2}`, "net.b", "net.c")), `update vm.a {link:"i-1",size:2} net.b`}, {"none needed", conf("thing vm.a", "end"), beings(being("vm.a", `{id:"i"}`, "net.b")), "update vm.a {}"},
		{"not known whole", list, beings(vm), `create net.b {zone:"eu"}; update vm.a {link:?,size:2} net.b`}, {"another value", list, beings(net, being("vm.a", `{id:"i-2",link:"i-1",size:3}`, "net.b")), `update vm.a {link:"i-1",size:2} net.b`}, {"one more", list, beings(net, being("vm.a", `{id:"i-2",link:"i-1"}`, "net.b")), `update vm.a {link:"i-1",size:2} net.b`}, {"one less", list, beings(net, being("vm.a", `{id:"i-2",link:"i-1",more:1,size:2}`, "net.b")), `update vm.a {link:"i-1",size:2} net.b`}, {"another id", list, beings(being("net.b", `{id:"i-3",zone:"eu"}`), vm), `update vm.a {link:"i-3",size:2} net.b`},
		{"a zone that comes", conf("thing vm.a", "  zone 1", "end"), beings(being("vm.a", `{id:"i"}`)), "replace vm.a {zone:1}"}, {"a zone that goes", conf("thing vm.a", "end"), beings(being("vm.a", `{id:"i",zone:1}`)), "replace vm.a {}"}, {"a zone that is not known", conf("thing vm.a", "  zone @vm.b.id", "end", "thing vm.b", "end"), beings(being("vm.a", `{id:"i",zone:1}`, "vm.b")), "create vm.b {}; replace vm.a {zone:?} vm.b"},
		{"all kinds", conf("thing vm.z", "end", "thing net.b", "  zone \"us\"", "end", "thing vm.a", "end"), append(slices.Clone(state), being("vm.b", `{id:"i"}`, "vm.a"), being("vm.c", `{id:"i"}`, "vm.b")), `create vm.z {}; replace net.b {zone:"us"}; update vm.a {}; delete vm.c; delete vm.b`},
		{"a fault", blocks(let("m", "not 1")), state, "fault 2 at 1"}, {"a bad state", nil, manyThings(11), "fault 6 at 0"},
	} {
		if got := planned(c.list, nil, c.state); got != c.want {
			t.Errorf("%s: %s", c.what, got)
		}
	}
	if got := planned(conf("input n 1", "thing vm.a", "  x n", "end"), vars("n 2"), nil); got != "create vm.a {x:2}" {
		t.Error("an input:", got)
	}
	if got := planned(nil, vars("n 2"), state); got != "fault 1 at 0" {
		t.Error("no such input:", got)
	}
	acts, _ := impl.PlanMake(nil, nil, state)
	if acts[0].Attrs.Sort != impl.ValObject || len(acts[0].Needs) > 0 {
		t.Error("a deletion has", acts[0])
	}
}

// PlanDo of each Kind, with each code, and which comes first.
func TestPlanDoByHand(t *testing.T) {
	list, state := two()
	net, vm := state[0], state[1]
	us := conf("thing vm.a", "  link @net.b.id", "  size 3", "end", "thing net.b", "  zone \"us\"", "end")
	moved := being("net.b", `{id:"i-9",zone:"us"}`)
	fault := blocks(let("m", "not 1"))
	long := conf("thing vm.a", `  link cat @net.b.id "1234567890"`, "end", "thing net.b", "end")
	full := manyThings(10)
	ringed := conf("thing vm.a", "end", "thing vm.b", "  x @vm.a.id", "end")
	for _, c := range []struct {
		what        string
		list        []impl.Block
		state       []impl.Thing
		act, given  string
		code        int
		then        []impl.Thing
		alsoIfTwice bool
	}{
		{"a creation", list, nil, `create net.b {zone:"eu"}`, "i-1", 0, beings(net), false},
		{"a creation behind it", list, beings(net), "create vm.a {link:?,size:2} net.b", "i-2", 0, state, false},
		{"a creation, all known", list, beings(net), `create vm.a {link:"i-1",size:2} net.b`, "i-2", 0, state, false},
		{"a creation of nothing known", list, beings(net), "create vm.a {link:?,size:?} net.b", "", 0, beings(net, being("vm.a", `{id:"",link:"i-1",size:2}`, "net.b")), false},
		{"a creation too early", list, nil, "create vm.a {link:?,size:2} net.b", "i-2", 3, nil, false},
		{"a creation of what is there", list, state, `create net.b {zone:"eu"}`, "i-1", 2, state, false},
		{"a creation of what is not to be", list, nil, "create vm.z {}", "i-1", 2, nil, false},
		{"a creation with others", list, beings(net), `create vm.a {link:"i-2",size:2} net.b`, "i-2", 2, beings(net), false},
		{"a creation with one less", list, beings(net), `create vm.a {link:?} net.b`, "i-2", 2, beings(net), false},
		{"a creation with one more", list, beings(net), `create vm.a {link:?,more:?,size:?} net.b`, "i-2", 2, beings(net), false},
		{"a creation with no needs", list, beings(net), `create vm.a {link:?,size:2}`, "i-2", 2, beings(net), false},
		{"a creation with more needs", list, beings(net), `create vm.a {link:?,size:2} net.b net.c`, "i-2", 2, beings(net), false},
		{"others and too early", list, nil, "create vm.a {link:?,size:3} net.b", "i-2", 2, nil, false},
		{"a replacement", us, state, `replace net.b {zone:"us"}`, "i-9", 0, beings(moved, vm), true},
		{"a replacement that need not be", list, state, `replace net.b {zone:"eu"}`, "i-9", 0, beings(being("net.b", `{id:"i-9",zone:"eu"}`), vm), true},
		{"a replacement for an update", us, beings(moved, vm), "replace vm.a {link:?,size:3} net.b", "i-8", 0, beings(moved, being("vm.a", `{id:"i-8",link:"i-9",size:3}`, "net.b")), true},
		{"a replacement of what is not there", list, nil, `replace net.b {zone:"eu"}`, "i-9", 2, nil, false},
		{"a replacement of what is not to be", nil, state, `replace net.b {zone:"eu"}`, "i-9", 2, state, false},
		{"a replacement with others", us, state, `replace net.b {zone:"eu"}`, "i-9", 2, state, false},
		{"a replacement too early", us, state, "replace vm.a {link:?,size:3} net.b", "i-9", 3, state, false},
		{"an update", us, beings(moved, vm), "update vm.a {link:?,size:3} net.b", "i-7", 0, beings(moved, being("vm.a", `{id:"i-2",link:"i-9",size:3}`, "net.b")), true},
		{"an update too early", us, state, "update vm.a {link:?,size:3} net.b", "i-7", 3, state, false},
		{"an update of nothing", list, state, "update vm.a {link:?,size:2} net.b", "i-7", 0, state, true},
		{"an update of nothing with others", list, state, "update vm.a {link:?,size:3} net.b", "i-7", 2, state, false},
		{"an update of nothing with other needs", list, state, "update vm.a {link:?,size:2}", "i-7", 2, state, false},
		{"an update where it is a replacement", us, state, `update net.b {zone:"us"}`, "i-7", 2, state, false},
		{"an update of what is not there", list, beings(net), "update vm.a {link:?,size:2} net.b", "i-7", 2, beings(net), false},
		{"an update of what is not to be", nil, state, "update vm.a {link:?,size:2} net.b", "i-7", 2, state, false},
		{"an update of needs", list, beings(net, being("vm.a", `{id:"i-2",link:"i-1",size:2}`)), "update vm.a {link:?,size:2} net.b", "", 0, state, true},
		{"a deletion", nil, state, "delete vm.a", "", 0, beings(net), false},
		{"a deletion of what others need", nil, state, "delete net.b", "i", 0, beings(vm), false},
		{"a deletion of what is to be", list, state, "delete vm.a", "", 2, state, false},
		{"a deletion of what is not there", nil, state, "delete vm.z", "", 2, state, false},
		{"a deletion of what is to be, and not there", list, nil, "delete vm.a", "", 2, nil, false},
		{"a fault, ahead of all but 1", fault, state, "delete vm.z", "", 4, state, false},
		{"a fault that comes with an id", long, beings(being("net.b", `{id:"abcdefg"}`)), "create vm.a {link:?} net.b", "i", 4, beings(being("net.b", `{id:"abcdefg"}`)), false},
		{"one too many", append(conf("thing zz.z", "end"), thing("vm.a")), full, "create zz.z {}", "i", 1, full, false},
		{"one too many, but not to be", nil, full, "create zz.z {}", "i", 2, full, false},
		{"a ring", ringed, beings(being("vm.a", `{id:"1"}`, "vm.b")), `create vm.b {x:?} vm.a`, "i", 1, beings(being("vm.a", `{id:"1"}`, "vm.b")), false},
	} {
		a := act(c.act)
		got, code := impl.PlanDo(c.list, nil, c.state, a, c.given)
		if code != c.code || !sameThings(got, c.then) {
			t.Errorf("%s: code %d, %q", c.what, code, impl.StateWrite(got))
		}
		again, code := impl.PlanDo(c.list, nil, got, a, c.given)
		if c.code == 0 && (code == 0) != c.alsoIfTwice || !sameThings(again, got) {
			t.Errorf("%s, twice: code %d, %q", c.what, code, impl.StateWrite(again))
		}
	}
}

// PlanDo with 1, ahead of all others, has nothing.
func TestPlanDoBad(t *testing.T) {
	list, state := two()
	good := act("update vm.a {link:?,size:2} net.b")
	check := func(what string, list []impl.Block, state []impl.Thing, a impl.Act, given string) {
		t.Helper()
		if got, code := impl.PlanDo(list, nil, state, a, given); code != 1 || got != nil {
			t.Errorf("%s: code %d, %v", what, code, got)
		}
	}
	for i, a := range badActs() {
		check(fmt.Sprint("bad act ", i), list, state, a, "i")
		check(fmt.Sprint("bad act ahead of a fault ", i), make([]impl.Block, 1), state, a, "i")
	}
	for _, given := range []string{"12345678901234567", "\"", "a\nb", "\x7f", "é", strings.Repeat("x", 1<<20)} {
		check("a given "+given[:1], list, state, good, given)
		check("a given for a deletion", nil, state, act("delete vm.a"), given)
	}
	check("a bad state", list, manyThings(11), good, "i")
	check("a bad state, ahead of a fault", make([]impl.Block, 11), beings(being("vm.a", "{}")), good, "i")
	for i, v := range badValues() {
		check(fmt.Sprint("bad attributes ", i), list, beings(impl.Thing{Id: "vm.a", Attrs: v}), good, "i")
	}
	if got, code := impl.PlanDo(list, nil, state, good, "1234567890123456"); code != 0 || !sameThings(got, state) {
		t.Error("16 bytes given:", code)
	}
	if got, code := impl.PlanDo(list, vars("n 1"), state, good, ""); code != 4 || !sameThings(got, state) {
		t.Error("no such input:", code)
	}
}

// badActs is acts that are not ok, each by one thing.
func badActs() []impl.Act {
	of := func(kind int, id string, attrs impl.Value, needs ...string) impl.Act {
		return impl.Act{Kind: kind, Id: id, Attrs: attrs, Needs: needs}
	}
	bad := []impl.Act{
		{}, of(0, "vm.a", object("")), of(5, "vm.a", object("")), of(-1, "vm.a", object("")), of(1<<40, "vm.a", object("")),
		of(1, "", object("")), of(1, "vm", object("")), of(1, "vm.a.b", object("")), of(1, "vm.A", object("")), of(4, "vm", object("")), of(1, strings.Repeat("a", 1<<20), object("")),
		of(1, "vm.a", impl.Value{}), of(4, "vm.a", impl.Value{}), of(1, "vm.a", list()), of(1, "vm.a", unknown()), of(4, "vm.a", unknown()), of(2, "vm.a", null()),
		of(1, "vm.a", object("id", words("i"))), of(2, "vm.a", object("a id", null(), unknown())), of(3, "vm.a", object("id", unknown())), of(4, "vm.a", object("id", words("i"))),
		of(4, "vm.a", object("a", null())), of(4, "vm.a", object(""), "vm.b"), of(4, "vm.a", object("a", null()), "vm.b"),
		of(1, "vm.a", object(""), "vm"), of(1, "vm.a", object(""), ""), of(1, "vm.a", object(""), "vm.c", "vm.b"), of(2, "vm.a", object(""), "vm.b", "vm.b"), of(3, "vm.a", object(""), "vm.b", "vm"),
	}
	for _, v := range badValues() {
		bad = append(bad, of(1, "vm.a", v), of(4, "vm.a", v))
	}
	return bad
}

// PlanAll: ids in turn, up to the first code.
func TestPlanAllByHand(t *testing.T) {
	list, state := two()
	more := append(slices.Clone(list), thing("vm.c"), thing("vm.d"))
	acts, _ := impl.PlanMake(more, nil, nil)
	for _, c := range []struct {
		given []string
		want  string
		done  int
	}{
		{nil, "     ", 4}, {[]string{"a"}, "a a a a", 4}, {[]string{"a", "b"}, "a b a b", 4}, {[]string{"a", "b", "c"}, "a b c a", 4}, {[]string{"a", "b", "c", "d", "e"}, "a b c d", 4}, {[]string{"a", "\n"}, "a", 1}, {[]string{"\n"}, "", 0},
	} {
		got, done := impl.PlanAll(more, nil, nil, acts, c.given)
		var ids []string
		for _, a := range acts[:done] {
			i := slices.IndexFunc(got, func(t impl.Thing) bool { return t.Id == a.Id })
			ids = append(ids, got[i].Attrs.Kids[slices.Index(got[i].Attrs.Names, "id")].Text)
		}
		if done != c.done || len(got) != done || strings.TrimSpace(strings.Join(ids, " ")) != strings.TrimSpace(c.want) {
			t.Errorf("given %q: %d done, %q", c.given, done, ids)
		}
	}
	early := []impl.Act{acts[2], act("create vm.a {link:?,size:2} net.b"), acts[1]}
	if got, done := impl.PlanAll(more, nil, nil, early, nil); done != 1 || len(got) != 1 || got[0].Id != acts[2].Id {
		t.Errorf("up to one that comes too early: %d, %v", done, got)
	}
	bad := []impl.Act{acts[2], {}, acts[3]}
	if got, done := impl.PlanAll(more, nil, nil, bad, nil); done != 1 || len(got) != 1 {
		t.Errorf("up to a bad act: %d, %v", done, got)
	}
	if got, done := impl.PlanAll(blocks(let("m", "not 1")), nil, state, acts, nil); done != 0 || !sameThings(got, state) {
		t.Errorf("a fault: %d, %v", done, got)
	}
	if got, done := impl.PlanAll(list, nil, state, nil, []string{"a"}); done != 0 || !sameThings(got, state) {
		t.Errorf("no acts: %d, %v", done, got)
	}
	if got, done := impl.PlanAll(list, nil, manyThings(11), acts, nil); done != 0 || !sameThings(got, manyThings(11)) {
		t.Errorf("a bad state: %d, %v", done, got)
	}
	if got, done := impl.PlanAll(list, nil, beings(being("vm.a", "{}")), nil, nil); done != 0 || !sameThings(got, beings(being("vm.a", "{}"))) {
		t.Errorf("a bad state, and no acts: %d, %v", done, got)
	}
}

// A replacement that need not be any more when its turn comes is done all the same, and what hangs on it follows.
func TestPlanAnewAllTheSame(t *testing.T) {
	list := conf("thing net.b", "  zone \"us\"", "end", "thing vm.a", `  zone if same @net.b.id "x" "us" "eu"`, "end", "thing vm.c", "  link @vm.a.id", "end")
	state := beings(being("net.b", `{id:"1",zone:"eu"}`), being("vm.a", `{id:"2",zone:"eu"}`, "net.b"), being("vm.c", `{id:"3",link:"2"}`, "vm.a"))
	acts, _ := impl.PlanMake(list, nil, state)
	if got := planText(acts); got != lines(`replace net.b {zone:"us"}`, "replace vm.a {zone:?} net.b", "update vm.c {link:?} vm.a") {
		t.Fatalf("%q", got)
	}
	first, _ := impl.PlanDo(list, nil, state, acts[0], "4")
	if left := planned(list, nil, first); left != "" {
		t.Errorf("behind the first: %s", left)
	}
	got, done := impl.PlanAll(list, nil, state, acts, []string{"4", "5", "6"})
	if text := impl.StateWrite(got); done != 3 || text != lines(`net.b {id:"4",zone:"us"}`, `vm.a {id:"5",zone:"eu"} net.b`, `vm.c {id:"3",link:"5"} vm.a`) {
		t.Errorf("%d done: %q", done, text)
	}
}
