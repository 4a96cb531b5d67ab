package tests

import (
	"math/rand"
	"slices"
	"strconv"
	"strings"
	"testing"

	"loop.example/portreeve/impl"
)

// wantText is what EvalWant answers, as one text.
func wantText(list []impl.Block, inputs []impl.Var, state []impl.Thing) string {
	things, outputs, f := impl.EvalWant(list, inputs, state)
	if f != evalFault(0, 0) {
		if things != nil || outputs != nil {
			return "not nothing"
		}
		return "fault " + strconv.Itoa(f.Code) + " at " + strconv.Itoa(f.At)
	}
	var text []string
	for _, t := range things {
		text = append(text, strings.Join(append([]string{t.Id, impl.ValueShow(t.Attrs)}, t.Needs...), " "))
	}
	for _, v := range outputs {
		text = append(text, v.Name+" "+impl.ValueShow(v.Value))
	}
	return strings.Join(text, "; ")
}

// P16: things in another order than they need each other, and the ids that they keep.
func TestWantByHand(t *testing.T) {
	chain := conf("output o list 2 @vm.a.id @net.b.id", "input n 2", "let m add n 1", "thing vm.a", "  link @net.b.id", "  size m", "end", "thing net.b", "  zone \"eu\"", "end", "output p m")
	kept := being("net.b", `{id:"i-1",zone:"eu"}`)
	for _, c := range []struct {
		what  string
		state []impl.Thing
		want  string
	}{
		{"no state", nil, `net.b {id:?,zone:"eu"}; vm.a {id:?,link:?,size:3} net.b; o [?,?]; p 3`},
		{"one kept", beings(kept), `net.b {id:"i-1",zone:"eu"}; vm.a {id:?,link:"i-1",size:3} net.b; o [?,"i-1"]; p 3`},
		{"both kept", beings(kept, being("vm.a", `{id:"i-2"}`)), `net.b {id:"i-1",zone:"eu"}; vm.a {id:"i-2",link:"i-1",size:3} net.b; o ["i-2","i-1"]; p 3`},
		{"an empty id", beings(being("vm.a", `{id:""}`)), `net.b {id:?,zone:"eu"}; vm.a {id:"",link:?,size:3} net.b; o ["",?]; p 3`},
		{"another zone", beings(being("net.b", `{id:"i-1",zone:"us"}`)), `net.b {id:?,zone:"eu"}; vm.a {id:?,link:?,size:3} net.b; o [?,?]; p 3`},
		{"a zone of another sort", beings(being("net.b", `{id:"i-1",zone:["eu"]}`)), `net.b {id:?,zone:"eu"}; vm.a {id:?,link:?,size:3} net.b; o [?,?]; p 3`},
		{"no zone in the state", beings(being("net.b", `{id:"i-1"}`)), `net.b {id:?,zone:"eu"}; vm.a {id:?,link:?,size:3} net.b; o [?,?]; p 3`},
		{"a zone in the state alone", beings(being("vm.a", `{id:"i-2",zone:"eu"}`)), `net.b {id:?,zone:"eu"}; vm.a {id:?,link:?,size:3} net.b; o [?,?]; p 3`},
		{"others", beings(being("a.a", `{id:"i-1"}`), being("zz.a", `{id:"i-2"}`)), `net.b {id:?,zone:"eu"}; vm.a {id:?,link:?,size:3} net.b; o [?,?]; p 3`},
	} {
		if got := wantText(chain, nil, c.state); got != c.want {
			t.Errorf("%s: %s", c.what, got)
		}
	}
	if got := wantText(nil, nil, beings(kept)); got != "" {
		t.Error("no blocks:", got)
	}
	many := conf("thing vm.a", "end", "thing vm.b", "  x @vm.d.id", "end", "thing vm.c", "end", "thing vm.d", "  x list 2 @vm.c.id @vm.a.id", "end")
	if got := wantText(many, nil, nil); got != "vm.a {id:?}; vm.c {id:?}; vm.d {id:?,x:[?,?]} vm.a vm.c; vm.b {id:?,x:?} vm.d" {
		t.Error("by the graph's order:", got)
	}
}

// What must be made anew: by zones that are unknown, the same, and of each sort.
func TestWantZones(t *testing.T) {
	list := conf("thing net.b", "  zone \"eu\"", "end", "thing vm.a", "  zone list 2 1 @net.b.id", "end", "thing vm.b", "  x @vm.a.id", "end")
	kept := `{id:"i-1",zone:"eu"}`
	for _, c := range []struct {
		what, net, vm, want string
	}{
		{"known, the same", kept, `{id:"i-2",zone:[1,"i-1"]}`, `net.b {id:"i-1",zone:"eu"}; vm.a {id:"i-2",zone:[1,"i-1"]} net.b; vm.b {id:?,x:"i-2"} vm.a`},
		{"known, another one", kept, `{id:"i-2",zone:[1,"i-3"]}`, `net.b {id:"i-1",zone:"eu"}; vm.a {id:?,zone:[1,"i-1"]} net.b; vm.b {id:?,x:?} vm.a`},
		{"known, fewer", kept, `{id:"i-2",zone:[1]}`, `net.b {id:"i-1",zone:"eu"}; vm.a {id:?,zone:[1,"i-1"]} net.b; vm.b {id:?,x:?} vm.a`},
		{"unknown", `{id:"i-1",zone:"us"}`, `{id:"i-2",zone:[1,"i-1"]}`, `net.b {id:?,zone:"eu"}; vm.a {id:?,zone:[1,?]} net.b; vm.b {id:?,x:?} vm.a`},
		{"unknown, none in the state", `{id:"i-1",zone:"us"}`, `{id:"i-2"}`, `net.b {id:?,zone:"eu"}; vm.a {id:?,zone:[1,?]} net.b; vm.b {id:?,x:?} vm.a`},
		{"none in the state", kept, `{id:"i-2"}`, `net.b {id:"i-1",zone:"eu"}; vm.a {id:?,zone:[1,"i-1"]} net.b; vm.b {id:?,x:?} vm.a`},
	} {
		if got := wantText(list, nil, beings(being("net.b", c.net), being("vm.a", c.vm))); got != c.want {
			t.Errorf("%s: %s", c.what, got)
		}
	}
	null := conf("thing vm.a", "  zone null", "end")
	for attrs, want := range map[string]string{`{id:"i"}`: "vm.a {id:?,zone:null}", `{id:"i",zone:null}`: `vm.a {id:"i",zone:null}`, `{id:"i",zone:false}`: "vm.a {id:?,zone:null}"} {
		if got := wantText(null, nil, beings(being("vm.a", attrs))); got != want {
			t.Errorf("%s, to be null: %s", attrs, got)
		}
	}
	if got := wantText(conf("thing vm.a", "end"), nil, beings(being("vm.a", `{id:"i",zone:null}`))); got != "vm.a {id:?}" {
		t.Error("null, to be none:", got)
	}
}

// P17, and what is wrong with inputs.
func TestWantInputs(t *testing.T) {
	list := conf("input n 2", "input k null", "let m add n 1", "thing vm.a", "  k k", "  size m", "end", "output o n")
	for _, c := range []struct {
		inputs []impl.Var
		want   string
	}{
		{nil, "vm.a {id:?,k:null,size:3}; o 2"}, {vars("n 2"), "vm.a {id:?,k:null,size:3}; o 2"}, {vars("n 2", "k null"), "vm.a {id:?,k:null,size:3}; o 2"}, {vars("k null", "n 2"), "vm.a {id:?,k:null,size:3}; o 2"}, {vars("n 7"), "vm.a {id:?,k:null,size:8}; o 7"}, {vars("k {a:[1]}"), "fault 5 at 4"}, {vars("k [1,[]]"), "vm.a {id:?,k:[1,[]],size:3}; o 2"}, {vars("k {a:1}"), "vm.a {id:?,k:{a:1},size:3}; o 2"},
		{vars("n \"a\""), "fault 2 at 3"}, {vars("n 999999"), "fault 3 at 3"}, {vars("k [[[]]]"), "fault 5 at 4"},
		{vars("m 2"), "fault 1 at 0"}, {vars("o 2"), "fault 1 at 0"}, {vars("q 2"), "fault 1 at 0"}, {vars("n ?"), "fault 1 at 0"}, {vars("k [?]"), "fault 1 at 0"}, {vars("k {a:?}"), "fault 1 at 0"}, {vars("n 2", "n 2"), "fault 1 at 0"}, {vars("n 2", "k 1", "n 2"), "fault 1 at 0"}, {vars("n 2", "q 1"), "fault 1 at 0"}, {[]impl.Var{{Name: "n"}}, "fault 1 at 0"}, {[]impl.Var{{Value: number(1)}}, "fault 1 at 0"}, {[]impl.Var{{Name: "n", Value: number(1000000)}}, "fault 1 at 0"}, {[]impl.Var{{Name: "vm.a", Value: number(1)}}, "fault 1 at 0"}, {make([]impl.Var, 1<<20), "fault 1 at 0"}, {[]impl.Var{{Name: "n", Value: badValues()[42]}}, "fault 1 at 0"},
	} {
		if got := wantText(list, c.inputs, nil); got != c.want {
			t.Errorf("%v: %s", c.inputs[:min(3, len(c.inputs))], got)
		}
	}
	for i, v := range badValues() {
		if got := wantText(list, []impl.Var{{Name: "k", Value: v}}, nil); got != "fault 1 at 0" {
			t.Errorf("bad value %d: %s", i, got)
		}
	}
}

// Faults, each by its place, and which of two comes first.
func TestWantFaults(t *testing.T) {
	badState := beings(being("vm.a", "{}"))
	for _, c := range []struct {
		what  string
		list  []impl.Block
		names []impl.Var
		state []impl.Thing
		want  string
	}{
		{"a bad state", nil, nil, badState, "fault 6 at 0"}, {"a bad configuration", blocks(output("o", "q")), nil, nil, "fault 6 at 0"}, {"a ring", blocks(thing("vm.a", "x @vm.a.id")), nil, nil, "fault 6 at 0"}, {"too many blocks", manyBlocks(11), nil, nil, "fault 6 at 0"}, {"both", blocks(impl.Block{}), nil, badState, "fault 6 at 0"},
		{"ahead of an input", blocks(output("o", "q")), vars("n 1"), nil, "fault 6 at 0"}, {"a state, ahead of an input", nil, vars("n 1"), badState, "fault 6 at 0"}, {"an input, ahead of a let", blocks(let("m", "add 1 true")), vars("n 1"), nil, "fault 1 at 0"},
		{"a let", blocks(input("n", "1"), let("m", "add n true")), nil, nil, "fault 2 at 2"}, {"two lets", blocks(let("m", "add 999999 1"), let("k", "not 1")), nil, nil, "fault 3 at 1"}, {"a let, ahead of a thing", blocks(thing("vm.a", "x not 1"), let("m", "at list 0 0")), nil, nil, "fault 4 at 2"}, {"a let, ahead of an output", blocks(output("o", "not 1"), let("m", "at list 0 0")), nil, nil, "fault 4 at 2"},
		{"a thing", blocks(input("n", "1"), thing("vm.a"), thing("vm.b", "a 1", "b not 1")), nil, nil, "fault 2 at 3"}, {"a thing's first", blocks(thing("vm.b", "a add 999999 1", "b not 1")), nil, nil, "fault 3 at 1"}, {"two things", blocks(thing("vm.b", "x not 1"), thing("vm.a", "x at list 0 0")), nil, nil, "fault 2 at 1"}, {"two things, by their needs", blocks(thing("vm.b", "x @vm.a.id", "y not 1"), thing("vm.a", "x at list 0 0")), nil, nil, "fault 4 at 2"}, {"a thing, ahead of an output", blocks(output("o", "not 1"), thing("vm.a", "x at list 0 0")), nil, nil, "fault 4 at 2"}, {"an output", blocks(thing("vm.a"), output("p", "1"), output("o", "not 1")), nil, nil, "fault 2 at 3"}, {"two outputs", blocks(output("p", "add 999999 1"), output("o", "not 1")), nil, nil, "fault 3 at 1"},
		{"what another one has", blocks(thing("vm.a", "x add @vm.b.y 1"), thing("vm.b", "y true")), nil, nil, "fault 2 at 1"}, {"an id that is too long", blocks(thing("vm.a", `x cat @vm.b.id "12345678"`), thing("vm.b")), nil, beings(being("vm.b", `{id:"123456789"}`)), "fault 5 at 1"}, {"an id that is just not", blocks(thing("vm.a", `x cat @vm.b.id "12345678"`), thing("vm.b")), nil, beings(being("vm.b", `{id:"abcdefgh"}`)), `vm.b {id:"abcdefgh"}; vm.a {id:?,x:"abcdefgh12345678"} vm.b`},
		{"an id of an output", blocks(thing("vm.b"), output("o", "not @vm.b.id")), nil, beings(being("vm.b", `{id:"1"}`)), "fault 2 at 2"}, {"an id that is not known", blocks(thing("vm.b"), output("o", "not @vm.b.id")), nil, nil, "vm.b {id:?}; o ?"},
		{"a code, ahead of what is too big", blocks(thing("vm.a", "a list 1 list 1 list 0", "b not 1")), nil, nil, "fault 2 at 1"},
	} {
		if got := wantText(c.list, c.names, c.state); got != c.want {
			t.Errorf("%s: %s", c.what, got)
		}
	}
}

// Attrs with just as much as is ok, and one part more with `id`.
func TestWantBig(t *testing.T) {
	for _, c := range []struct {
		attrs []string
		want  string
	}{
		{[]string{"a list 4 1 1 1 1", "b list 4 1 1 1 1", "c list 2 1 1"}, "vm.a {a:[1,1,1,1],b:[1,1,1,1],c:[1,1],id:?}"},
		{[]string{"a list 4 1 1 1 1", "b list 4 1 1 1 1", "c list 3 1 1 1"}, "vm.a {a:[1,1,1,1],b:[1,1,1,1],c:[1,1,1],id:?}"},
		{[]string{"a list 4 1 1 1 1", "b list 4 1 1 1 1", "c list 4 1 1 1 1"}, "fault 5 at 1"},
		{[]string{"a list 4 1 1 1 1", "b list 4 1 1 1 1", "c 1", "x 1"}, "vm.a {a:[1,1,1,1],b:[1,1,1,1],c:1,id:?,x:1}"},
		{[]string{"a list 4 1 1 1 1", "b list 4 1 1 1 1", "c 1", "x list 1 1"}, "vm.a {a:[1,1,1,1],b:[1,1,1,1],c:1,id:?,x:[1]}"},
		{[]string{"a list 4 1 1 1 1", "b list 4 1 1 1 1", "c 1", "x list 2 1 1"}, "vm.a {a:[1,1,1,1],b:[1,1,1,1],c:1,id:?,x:[1,1]}"},
		{[]string{"a list 4 1 1 1 1", "b list 4 1 1 1 1", "c 1", "x list 3 1 1 1"}, "fault 5 at 1"},
		{[]string{"a 1", "b 2", "x 3", "y 4"}, "vm.a {a:1,b:2,id:?,x:3,y:4}"}, {[]string{"ic 1", "id0 2"}, "vm.a {ic:1,id:?,id0:2}"},
		{[]string{"a list 1 list 0"}, "vm.a {a:[[]],id:?}"}, {[]string{"a list 1 list 1 1"}, "fault 5 at 1"}, {[]string{"a list 1 list 1 list 0"}, "fault 5 at 1"},
	} {
		if got := wantText(blocks(thing("vm.a", c.attrs...)), nil, nil); got != c.want {
			t.Errorf("%v: %s", c.attrs, got)
		}
	}
}

// P16 and P17, over configurations and states made by chance, held against the model.
func TestWantModel(t *testing.T) {
	r := rand.New(rand.NewSource(16))
	codes := map[int]int{}
	for range 3000 {
		list, state := anyPair(r)
		inputs := anyInputs(r, list)
		things, outputs, f := impl.EvalWant(list, inputs, state)
		w, wantFault := modelWant(list, inputs, state)
		if f != wantFault || !sameThings(things, w.world.things(w.order)) || !sameVars(outputs, w.outputs) {
			t.Fatalf("%q, %v: %s, not %v", confText(list), inputs, wantText(list, inputs, state), wantFault)
		}
		codes[f.Code]++
		for i, one := range things {
			for _, id := range one.Needs {
				if !slices.ContainsFunc(things[:i], func(t impl.Thing) bool { return t.Id == id }) {
					t.Fatalf("%q: %s is told ahead of %s", confText(list), one.Id, id)
				}
			}
		}
		checkAnyway(t, list, state)
	}
	for _, code := range []int{0, 1, 2, 3, 5} {
		if codes[code] < 10 {
			t.Errorf("the test is wrong: %v", codes)
		}
	}
}

// checkAnyway is P17: an input that is given as it is anyway changes nothing.
func checkAnyway(t *testing.T, list []impl.Block, state []impl.Thing) {
	t.Helper()
	want := wantText(list, nil, state)
	var inputs []impl.Var
	for _, b := range list {
		if b.Kind == impl.BlockInput {
			inputs = append(inputs, impl.Var{Name: b.Name, Value: b.Expr.Value})
		}
	}
	if got := wantText(list, inputs, state); got != want {
		t.Fatalf("%q: %s, given as it is anyway %s", confText(list), want, got)
	}
}

// manyThings is so many things of a state, from vm.a on.
func manyThings(n int) []impl.Thing {
	var state []impl.Thing
	for i := range n {
		state = append(state, being("vm."+string(rune('a'+i)), `{id:"i"}`))
	}
	return state
}

// badState is a state that is not ok, and why not.
type badState struct {
	why   string
	state []impl.Thing
}

// badStates is states that are not ok, some for each of the reasons that chapter 6 gives; each call makes them anew.
func badStates() []badState {
	var bad []badState
	add := func(why string, states ...[]impl.Thing) {
		for i, state := range states {
			bad = append(bad, badState{why + " " + strconv.Itoa(i), state})
		}
	}
	add("too many", manyThings(11), manyThings(12), append(manyThings(10), being("zz.z", `{id:"i"}`, "vm.a")), make([]impl.Thing, 11), make([]impl.Thing, 1<<20))
	add("not ascending", beings(being("vm.b", `{id:"i"}`), being("vm.a", `{id:"i"}`)), beings(being("vm.a", `{id:"i"}`), being("vm.a", `{id:"i"}`)), beings(being("vm.a", `{id:"i"}`), being("vm.c", `{id:"i"}`), being("vm.b", `{id:"i"}`)))
	add("no id of a thing", make([]impl.Thing, 1), beings(being("vm", `{id:"i"}`)), beings(being("", `{id:"i"}`)), beings(being("vm.A", `{id:"i"}`)), beings(being("vm.a.b", `{id:"i"}`)), beings(being("a", `{id:"i"}`), being("vm.a", `{id:"i"}`)), beings(being(strings.Repeat("a", 100000), `{id:"i"}`)))
	add("not known whole", beings(being("vm.a", "?")), beings(being("vm.a", "{id:?}")), beings(being("vm.a", `{id:"i",x:?}`)), beings(being("vm.a", `{id:"i",x:[1,?]}`)))
	add("no object", beings(being("a.b", "999999")), beings(being("vm.a", `"i"`)), beings(being("vm.a", `["id"]`)), beings(being("vm.a", "null")))
	add("no id given", beings(being("vm.a", "{}")), beings(being("vm.a", `{ida:"i"}`)), beings(being("vm.a", `{id:"i"}`), being("vm.b", `{zone:"i"}`)), beings(being("net.b", `{zone:"eu"}`, "net.b")))
	add("an id that is no text", beings(being("vm.a", "{id:1}")), beings(being("vm.a", "{id:null}")), beings(being("vm.a", `{id:["i"]}`)))
	add("a need that is no id", beings(being("vm.a", `{id:"i"}`, "vm")), beings(being("vm.a", `{id:"i"}`, "")), beings(being("vm.a", `{id:"i"}`, "vm.b", "")), beings(being("vm.a", `{id:"i"}`, make([]string, 1000)...)))
	add("needs not ascending", beings(being("vm.a", `{id:"i"}`, "vm.c", "vm.b")), beings(being("vm.a", `{id:"i"}`, "vm.b", "vm.b")))
	add("a need of itself", beings(being("vm.a", `{id:"i"}`, "vm.a")), beings(being("vm.a", `{id:"i"}`, "a.a", "vm.a")))
	add("a ring", beings(being("vm.a", `{id:"i"}`, "vm.b"), being("vm.b", `{id:"i"}`, "vm.a")), beings(being("vm.a", `{id:"i"}`, "vm.b"), being("vm.b", `{id:"i"}`, "vm.c"), being("vm.c", `{id:"i"}`, "vm.a")), beings(being("a.a", `{id:"i"}`), being("vm.b", `{id:"i"}`, "a.a", "vm.c"), being("vm.c", `{id:"i"}`, "vm.b")))
	for i, v := range badValues() {
		add("bad value "+strconv.Itoa(i), beings(impl.Thing{Id: "vm.a", Attrs: v, Needs: []string{"vm.b"}}), beings(impl.Thing{Id: "vm.a", Attrs: object("id x", words("i"), v)}), beings(being("a.a", `{id:"i"}`), impl.Thing{Id: "vm.a", Attrs: v}, being("vm.b", `{id:"i",x:[1]}`, "a.a")))
	}
	add("all at once", beings(impl.Thing{Id: "", Attrs: impl.Value{Sort: impl.ValText, Num: 7, Text: "x\"", Names: []string{"a", "b"}, Kids: []impl.Value{{Sort: 9, Kids: []impl.Value{words("y"), {Names: []string{"", "A"}}}}}}, Needs: []string{"x", ""}}, being("", "?", "")))
	return bad
}

func TestStateOk(t *testing.T) {
	good := [][]impl.Thing{
		nil, {}, manyThings(1), manyThings(10), beings(being("vm.a", `{id:""}`)), beings(being("a.b", `{a:[1,[]],id:"1234567890123456",zone:null}`)),
		beings(being("vm.a", `{id:"i"}`, "a.a", "vm.b", "zz.z"), being("vm.b", `{id:"i"}`, "vm.c"), being("vm.c", `{id:"i"}`)), beings(being("vm.a", `{id:"i"}`), being("vm.b", `{id:"i"}`, "vm.a")), beings(being("vm.a", `{id:"i"}`, "vm.b"), being("vm.c", `{id:"i"}`, "vm.a")),
		beings(being("a.b", `{id:"i"}`), being("a0.a", `{id:"i"}`), being("aa.a", `{id:"i"}`)),
	}
	for i, state := range good {
		if !impl.StateOk(state) || !modelState(state) {
			t.Errorf("state %d is not ok", i)
		}
	}
	for _, bad := range badStates() {
		if impl.StateOk(bad.state) || impl.StateWrite(bad.state) != "" {
			t.Errorf("%s: it is ok", bad.why)
		}
	}
}

// Answers are new memory, and arguments stay as they are.
func TestWantMemory(t *testing.T) {
	list := conf("input n 1", "thing vm.a", "  a n", "  b n", "end", "thing vm.b", "  x list 2 @vm.a.id @vm.a.id", "end", "output o @vm.a.a", "output p @vm.b.x")
	state := beings(being("vm.a", `{id:"i-1"}`), being("vm.b", `{id:"i-2"}`, "vm.a"))
	inputs := vars("n [\"t\"]")
	things, outputs, _ := impl.EvalWant(list, inputs, state)
	before := wantText(list, inputs, state)
	things[0].Attrs.Kids[0].Kids[0] = null()
	if impl.ValueShow(things[0].Attrs) != `{a:[null],b:["t"],id:"i-1"}` || impl.ValueShow(outputs[0].Value) != `["t"]` {
		t.Error("lists share memory")
	}
	if shares(things[0].Id, list[1].Id) || shares(things[1].Needs[0], list[2].Attrs[0].Expr.Kids[0].Text) || shares(outputs[0].Name, list[3].Name) || shares(things[0].Attrs.Names[0], list[1].Attrs[0].Name) || shares(things[0].Attrs.Kids[2].Text, state[0].Attrs.Kids[0].Text) {
		t.Error("a text lies within an argument")
	}
	things[1].Needs[0], outputs[0].Value.Kids[0], outputs[1].Value.Kids[0], things[0].Attrs.Names[0] = "x", null(), null(), "x"
	if wantText(list, inputs, state) != before || impl.ValueShow(inputs[0].Value) != `["t"]` || impl.ValueShow(state[0].Attrs) != `{id:"i-1"}` {
		t.Error("an argument is changed")
	}
}
