package tests

import (
	"fmt"
	"math/rand"
	"slices"
	"testing"

	"loop.example/portreeve/impl"
)

// pairOfLists is two lists of one length, by where they begin.
type pairOfLists struct {
	a, b *impl.Value
	size int
}

// held is the lists that are being held against each other, or were.
type held map[pairOfLists]bool

// same says whether values are the same, even if they hold themselves: lists are not held against each other twice.
func (h held) same(v, w impl.Value) bool {
	return v.Sort == w.Sort && v.Num == w.Num && v.Text == w.Text && slices.Equal(v.Names, w.Names) && h.sameLists(v.Kids, w.Kids)
}

func (h held) sameLists(a, b []impl.Value) bool {
	if len(a) != len(b) || len(a) == 0 {
		return len(a) == len(b)
	}
	pair := pairOfLists{&a[0], &b[0], len(a)}
	if h[pair] {
		return true
	}
	h[pair] = true
	return slices.EqualFunc(a, b, h.same)
}

// sameKept is sameThings of any things.
func sameKept(a, b []impl.Thing) bool {
	h := held{}
	return slices.EqualFunc(a, b, func(a, b impl.Thing) bool {
		return a.Id == b.Id && slices.Equal(a.Needs, b.Needs) && h.same(a.Attrs, b.Attrs)
	})
}

// memory is what lists things are made of, each by where it begins, and how often it was met.
type memory struct {
	values map[*impl.Value]int
	texts  map[*string]int
	all    []string
}

func memoryOf(things []impl.Thing) memory {
	m := memory{map[*impl.Value]int{}, map[*string]int{}, nil}
	for _, t := range things {
		m.all = append(m.all, t.Id)
		m.addTexts(t.Needs)
		m.addValue(t.Attrs)
	}
	return m
}

func (m *memory) addTexts(list []string) {
	m.all = append(m.all, list...)
	if cap(list) > 0 {
		m.texts[&list[:1][0]]++
	}
}

func (m *memory) addValue(v impl.Value) {
	m.all = append(m.all, v.Text)
	m.addTexts(v.Names)
	if cap(v.Kids) == 0 {
		return
	}
	first := &v.Kids[:1][0]
	m.values[first]++
	if m.values[first] > 1 {
		return
	}
	for _, kid := range v.Kids {
		m.addValue(kid)
	}
}

// within says whether any list or text of one lies in the other's.
func (m *memory) within(other memory) bool {
	for first := range m.values {
		if other.values[first] > 0 {
			return true
		}
	}
	for first := range m.texts {
		if other.texts[first] > 0 {
			return true
		}
	}
	// What is told comes in one order, so that only texts of one place can be one.
	for i := range min(len(m.all), len(other.all)) {
		if shares(m.all[i], other.all[i]) {
			return true
		}
	}
	return false
}

// own says whether no two lists share memory.
func (m *memory) own() bool {
	for _, n := range m.values {
		if n > 1 {
			return false
		}
	}
	for _, n := range m.texts {
		if n > 1 {
			return false
		}
	}
	return true
}

// spoilThings writes into all that things are made of, spare room included.
func spoilThings(things []impl.Thing) {
	seen := map[*impl.Value]bool{}
	things = things[:cap(things)]
	for i, t := range things {
		spoilTexts(t.Needs)
		spoilValue(seen, t.Attrs)
		things[i] = impl.Thing{Id: "spoilt", Needs: []string{"spoilt"}}
	}
}

func spoilTexts(list []string) {
	list = list[:cap(list)]
	for i := range list {
		list[i] = "spoilt"
	}
}

func spoilValue(seen map[*impl.Value]bool, v impl.Value) {
	spoilTexts(v.Names)
	kids := v.Kids[:cap(v.Kids)]
	if len(kids) == 0 || seen[&kids[0]] {
		return
	}
	seen[&kids[0]] = true
	for i, kid := range kids {
		spoilValue(seen, kid)
		kids[i] = impl.Value{Sort: 77, Text: "spoilt"}
	}
}

// undoable is acts of which the first cannot be done with any state that is not ok; some of them are about its things.
func undoable() [][]impl.Act {
	return [][]impl.Act{
		nil, {}, plan("create db.d {}"), plan("delete db.d", "create ip.e {}"), plan("delete vm.a"), plan("delete vm.b", "delete vm.a", "delete a.b"), plan("create vm.a {size:2}"), plan("update vm.a {}", "update vm.a {}"), plan("replace vm.a {zone:?}"), plan("create a.a {}", "update a.a {}", "delete a.a"),
		{{}}, {{Kind: impl.ActDelete, Id: "vm.a"}, act("delete vm.a")},
	}
}

// P21: a state that is not ok stays as it is, in new memory, whatever is to be done with it.
func TestPlanAllKeepsBadStates(t *testing.T) {
	confs := [][]impl.Block{nil, conf("thing vm.a", "end"), conf("thing db.d", "end", "thing vm.a", "  size 2", "end"), blocks(let("m", "not 1")), make([]impl.Block, 11)}
	givens := [][]string{nil, {"i-1"}, {"\"", "i-2"}}
	want, states := badStates(), badStates()
	for i, bad := range states {
		plans, had := undoable(), memoryOf(bad.state)
		if len(had.all) > 10000 {
			plans = plans[1:3]
		}
		for k, acts := range plans {
			what := fmt.Sprint(bad.why, ", plan ", k)
			got, done := impl.PlanAll(confs[(i+k)%len(confs)], vars("n 1")[:k%2], bad.state, acts, givens[k%len(givens)])
			if done != 0 || !sameKept(got, want[i].state) {
				t.Fatalf("%s: %d done, not as it was", what, done)
			}
			made := memoryOf(got)
			if made.within(had) {
				t.Fatalf("%s: the answer shares memory with the state", what)
			}
			spoilThings(got)
			if !sameKept(bad.state, want[i].state) {
				t.Fatalf("%s: the state is changed with the answer", what)
			}
		}
	}
}

// No two lists of an answer share memory, even where those of the state do.
func TestPlanAllKeepsListsApart(t *testing.T) {
	needs := []string{"b.b", "a.a"}
	kids := []impl.Value{words("x"), list(words("y"), list(), impl.Value{Sort: 9})}
	names := []string{"b", "a"}
	shared := impl.Value{Sort: impl.ValObject, Names: names, Kids: []impl.Value{list(kids...), list(kids...), {Sort: 5, Names: names, Kids: kids[:1]}}}
	long := impl.Value{Sort: impl.ValList, Kids: make([]impl.Value, 100000)}
	for i, state := range [][]impl.Thing{
		{{Id: "vm.a", Attrs: shared, Needs: needs}, {Id: "vm.b", Attrs: shared, Needs: needs}, {Id: "vm.c", Attrs: list(shared, shared), Needs: needs[:1]}},
		{{Id: "vm.a", Attrs: long}, {Id: "vm.a", Attrs: list(long, long)}},
	} {
		got, done := impl.PlanAll(nil, nil, state, plan("delete vm.a"), nil)
		if done != 0 || !sameKept(got, state) {
			t.Fatalf("state %d: %d done, %v", i, done, got)
		}
		made := memoryOf(got)
		if !made.own() || made.within(memoryOf(state)) {
			t.Errorf("state %d: lists share memory", i)
		}
	}
}

// The state's memory behind its end is not written into, nor told.
func TestPlanAllKeepsSpareRoom(t *testing.T) {
	kids := []impl.Value{words("x"), words("hidden")}
	needs := []string{"vm", "hidden"}
	state := append(make([]impl.Thing, 0, 4), impl.Thing{Id: "vm.a", Attrs: list(kids[:1]...), Needs: needs[:1]})
	got, _ := impl.PlanAll(nil, nil, state, nil, nil)
	if !sameThings(got, state) || slices.Contains(got[0].Needs[:cap(got[0].Needs)], "hidden") || slices.ContainsFunc(got[0].Attrs.Kids[:cap(got[0].Attrs.Kids)], func(v impl.Value) bool { return v.Text == "hidden" }) {
		t.Error("told what stands behind the end:", got)
	}
	spoilThings(got)
	if kids[1].Text != "hidden" || needs[1] != "hidden" || state[:2][1].Id != "" || !sameThings(state, beings(impl.Thing{Id: "vm.a", Attrs: list(words("x")), Needs: []string{"vm"}})) {
		t.Error("the state is changed")
	}
}

// What holds itself, or too much to be written out, or is too deep, is told all the same.
func TestPlanAllKeepsEndless(t *testing.T) {
	near, far := make([]impl.Value, 2), make([]impl.Value, 3)
	near[0], near[1] = impl.Value{Sort: 5, Kids: far}, impl.Value{Sort: 5, Kids: near}
	far[0], far[1], far[2] = words("far"), impl.Value{Sort: 6, Kids: near, Names: []string{"n"}}, impl.Value{Sort: 5, Kids: near[:1]}
	twice := list(words("end"))
	for range 70 {
		twice = list(twice, twice)
	}
	for i, state := range [][]impl.Thing{
		{{Id: "vm.a", Attrs: list(near...)}, {Id: "vm.b", Attrs: list(far...)}, {Id: "vm.c", Attrs: list(near...)}},
		{{Id: "vm.a", Attrs: twice}, {Id: "vm.b", Attrs: list(twice, number(1))}},
	} {
		got, done := impl.PlanAll(nil, nil, state, plan("delete vm.a"), nil)
		if done != 0 || !sameKept(got, state) {
			t.Errorf("endless %d: %d done, not as it was", i, done)
		}
		if made := memoryOf(got); made.within(memoryOf(state)) {
			t.Errorf("endless %d: the answer shares memory with the state", i)
		}
	}
	ring, _ := impl.PlanAll(nil, nil, beings(impl.Thing{Attrs: list(near[1])}), nil, nil)
	if kids := ring[0].Attrs.Kids[0].Kids; &kids[1].Kids[0] != &kids[0] {
		t.Error("a list that holds itself is told as one that does not")
	}
	deep := words("end")
	for range 1 << 20 {
		deep = list(deep)
	}
	got, _ := impl.PlanAll(nil, nil, beings(impl.Thing{Id: "vm.a", Attrs: deep}), nil, nil)
	levels := 0
	for v, old := got[0].Attrs, deep; len(v.Kids) == 1 && &v.Kids[0] != &old.Kids[0]; v, old = v.Kids[0], old.Kids[0] {
		levels++
		deep = v.Kids[0]
	}
	if levels != 1<<20 || deep.Text != "end" {
		t.Errorf("%d levels, and then %v", levels, deep.Sort)
	}
}

// P21 over states made by chance, of which some are spoilt: what PlanAll does not do stays.
func TestPlanAllKeepsModel(t *testing.T) {
	r := rand.New(rand.NewSource(21))
	bad := 0
	for range 1500 {
		blocks, state := anyPair(r)
		acts, _ := impl.PlanMake(blocks, nil, state)
		for i := range state {
			spoilThing(r, state, i)
		}
		want, wantDone := state, 0
		for _, a := range acts {
			next, code := modelDo(blocks, nil, want, a, "i-8")
			if code != 0 {
				break
			}
			want, wantDone = next, wantDone+1
		}
		got, done := impl.PlanAll(blocks, nil, state, acts, []string{"i-8"})
		if done != wantDone || !sameThings(got, want) {
			t.Fatalf("%q, %v: %d done, %v", planText(acts), state, done, got)
		}
		if !modelState(state) {
			bad++
		}
	}
	if bad < 300 || bad > 1200 {
		t.Error("the test is wrong:", bad)
	}
}

// spoilThing makes something of a thing another one, now and then.
func spoilThing(r *rand.Rand, state []impl.Thing, at int) {
	one := &state[at]
	switch r.Intn(16) {
	case 0:
		one.Id = []string{"", "vm", "vm.a", "zz.z"}[r.Intn(4)]
	case 1:
		one.Attrs = anyValue(r, 1)
	case 2:
		one.Attrs.Kids[r.Intn(len(one.Attrs.Kids))] = anyValue(r, 2)
	case 3:
		one.Needs = append(one.Needs, []string{"", "a.a", one.Id, state[r.Intn(len(state))].Id}[r.Intn(4)])
	case 4:
		spoil(r, &one.Attrs)
	}
}
