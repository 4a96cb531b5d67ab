package tests

import (
	"math/rand"
	"slices"
	"strconv"
	"testing"

	"loop.example/portreeve/impl"
)

// fresh is ids that nothing had.
func fresh(from int) []string {
	var given []string
	for i := range 12 {
		given = append(given, "new-"+strconv.Itoa(from+i))
	}
	return given
}

func find(state []impl.Thing, id string) (impl.Thing, bool) {
	i := slices.IndexFunc(state, func(t impl.Thing) bool { return t.Id == id })
	if i < 0 {
		return impl.Thing{}, false
	}
	return state[i], true
}

func idOf(t impl.Thing) string {
	return t.Attrs.Kids[slices.Index(t.Attrs.Names, "id")].Text
}

// P11 and P18 to P24, P66 to P68, over configurations and states made by chance.
func TestPlanPromises(t *testing.T) {
	r := rand.New(rand.NewSource(18))
	kinds := map[int]int{}
	for range 1500 {
		list, state := anyPair(r)
		inputs := anyInputs(r, list)
		acts, f := impl.PlanMake(list, inputs, state)
		want, wantFault := modelPlan(list, inputs, state)
		if f != wantFault || !sameActs(acts, want) {
			t.Fatalf("%q, %q: %s, not %q, %v", confText(list), impl.StateWrite(state), planned(list, inputs, state), planText(want), wantFault)
		}
		for _, a := range acts {
			kinds[a.Kind]++
		}
		if f.Code == 0 {
			checkTurned(t, list, inputs, state, acts)
			checkTurns(t, state, acts)
			checkWhole(t, list, inputs, state, acts, anyGiven(r))
			checkWhole(t, list, inputs, state, acts, fresh(0))
			checkBrokenOff(t, list, inputs, state, acts)
			checkLeftOut(t, list, inputs, state, acts)
		}
	}
	for kind := 1; kind <= 4; kind++ {
		if kinds[kind] < 200 {
			t.Errorf("the test is wrong: %v", kinds)
		}
	}
}

// checkTurned is P11: with all things behind all other blocks, the other way round, the acts are the same.
func checkTurned(t *testing.T, list []impl.Block, inputs []impl.Var, state []impl.Thing, acts []impl.Act) {
	t.Helper()
	var turned, things []impl.Block
	for _, b := range list {
		if b.Kind == impl.BlockThing {
			things = append(things, b)
		} else {
			turned = append(turned, b)
		}
	}
	slices.Reverse(things)
	other, f := impl.PlanMake(append(turned, things...), inputs, state)
	if f.Code != 0 || len(other) != len(acts) {
		t.Fatalf("%q: the other way round %v", confText(list), f)
	}
	for _, a := range acts {
		if !slices.ContainsFunc(other, func(b impl.Act) bool { return sameAct(a, b) }) {
			t.Fatalf("%q: the other way round it is %q, not %q", confText(list), planText(other), planText(acts))
		}
	}
}

// checkTurns is P20: each behind those of its Needs, deletions last, and ahead of what their things needed.
func checkTurns(t *testing.T, state []impl.Thing, acts []impl.Act) {
	t.Helper()
	place := func(id string) int { return slices.IndexFunc(acts, func(a impl.Act) bool { return a.Id == id }) }
	for i, a := range acts {
		if i > 0 && acts[i-1].Kind == impl.ActDelete && a.Kind != impl.ActDelete {
			t.Fatalf("%q: a deletion is not last", planText(acts))
		}
		for _, id := range a.Needs {
			if place(id) > i {
				t.Fatalf("%q: %s is ahead of %s", planText(acts), a.Id, id)
			}
		}
		old, _ := find(state, a.Id)
		for _, id := range old.Needs {
			if j := place(id); a.Kind == impl.ActDelete && j >= 0 && j < i && acts[j].Kind == impl.ActDelete {
				t.Fatalf("%q: %s goes behind %s, which it needed", planText(acts), a.Id, id)
			}
		}
	}
}

// checkWhole is P18, P21, P23, P24 and P68: all acts, one by one.
func checkWhole(t *testing.T, list []impl.Block, inputs []impl.Var, state []impl.Thing, acts []impl.Act, given []string) {
	t.Helper()
	all, done := impl.PlanAll(list, inputs, state, acts, given)
	now := state
	for i, a := range acts[:done] {
		id := ""
		if len(given) > 0 {
			id = given[i%len(given)]
		}
		next, code := impl.PlanDo(list, inputs, now, a, id)
		if code != 0 {
			t.Fatalf("%q: code %d for one that PlanAll did", planText(acts), code)
		}
		checkDone(t, now, next, a, id)
		again, _ := impl.PlanDo(list, inputs, next, a, id)
		if a.Kind != impl.ActReplace && !sameThings(again, next) {
			t.Fatalf("%q: done again it changes something", planText([]impl.Act{a}))
		}
		now = next
	}
	if !sameThings(all, now) {
		t.Fatalf("%q: PlanAll and PlanDo come to others", planText(acts))
	}
	if done < len(acts) {
		if kept, code := impl.PlanDo(list, inputs, now, acts[done], ""); !sameThings(kept, now) || code != 4 && (code != 1 || len(now) < 10 || acts[done].Kind != impl.ActCreate) {
			t.Fatalf("%q: code %d at %d", planText(acts), code, done)
		}
		return
	}
	if left := planned(list, inputs, all); left != "" && left[0] != 'f' {
		t.Fatalf("%q: behind all acts there is left %s", planText(acts), left)
	}
}

// checkDone is what stands behind one act: P21, P24 and P68.
func checkDone(t *testing.T, before, after []impl.Thing, a impl.Act, given string) {
	t.Helper()
	old, was := find(before, a.Id)
	new, is := find(after, a.Id)
	others := func(state []impl.Thing) []impl.Thing {
		return slices.DeleteFunc(slices.Clone(state), func(t impl.Thing) bool { return t.Id == a.Id })
	}
	if !sameThings(others(before), others(after)) || !impl.StateOk(after) {
		t.Fatalf("%q: others are changed", planText([]impl.Act{a}))
	}
	if a.Kind == impl.ActDelete {
		if is || !was {
			t.Fatalf("%q: there %v, then %v", planText([]impl.Act{a}), was, is)
		}
		return
	}
	attrs := native(new.Attrs).(map[string]any)
	delete(attrs, "id")
	if !is || !whole(attrs) || !impl.ValueFits(foreign(attrs), a.Attrs) || !slices.Equal(new.Needs, a.Needs) {
		t.Fatalf("%q: the thing has %s then", planText([]impl.Act{a}), impl.ValueShow(new.Attrs))
	}
	if a.Kind == impl.ActUpdate {
		given = idOf(old)
	}
	if idOf(new) != given {
		t.Fatalf("%q: its id is %s, not %s", planText([]impl.Act{a}), idOf(new), given)
	}
}

// checkBrokenOff is P22: behind the first acts a new plan leaves nothing to do.
func checkBrokenOff(t *testing.T, list []impl.Block, inputs []impl.Var, state []impl.Thing, acts []impl.Act) {
	t.Helper()
	for n := range len(acts) {
		part, done := impl.PlanAll(list, inputs, state, acts[:n], fresh(0))
		more, f := impl.PlanMake(list, inputs, part)
		rest, then := impl.PlanAll(list, inputs, part, more, fresh(50))
		left := planned(list, inputs, rest)
		if f.Code == 0 && done == n && then == len(more) && left != "" && left[0] != 'f' {
			t.Fatalf("%q, broken off at %d, gone on with by %q: there is left %s", planText(acts), n, planText(more), left)
		}
	}
}

// checkLeftOut is P19: without one there is something left; but of a replacement for a zone that was not known, and comes out as it was.
func checkLeftOut(t *testing.T, list []impl.Block, inputs []impl.Var, state []impl.Thing, acts []impl.Act) {
	t.Helper()
	for i, out := range acts {
		zone := slices.Index(out.Attrs.Names, "zone")
		if out.Kind == impl.ActUpdate || out.Kind == impl.ActReplace && zone >= 0 && !impl.ValueKnown(out.Attrs.Kids[zone]) {
			continue
		}
		now, given := state, fresh(0)
		for j, a := range acts {
			if next, code := impl.PlanDo(list, inputs, now, a, given[j]); j != i && code == 0 {
				now = next
			}
		}
		if planned(list, inputs, now) == "" {
			t.Fatalf("%q without %d: nothing is left to do", planText(acts), i)
		}
	}
}

// P66 and P67: from nothing, and to nothing.
func TestPlanFromAndToNothing(t *testing.T) {
	r := rand.New(rand.NewSource(66))
	for range 400 {
		list, state := anyConf(r), anyState(r)
		acts, f := impl.PlanMake(list, nil, nil)
		things := 0
		for _, b := range list {
			made := func(a impl.Act) bool { return a.Kind == impl.ActCreate && a.Id == b.Id }
			if b.Kind == impl.BlockThing {
				things++
			}
			if f.Code == 0 && b.Kind == impl.BlockThing && !slices.ContainsFunc(acts, made) {
				t.Fatalf("%q: %s is not made", confText(list), b.Id)
			}
		}
		if f.Code == 0 && len(acts) != things {
			t.Fatalf("%q: %q", confText(list), planText(acts))
		}
		gone, f := impl.PlanMake(nil, nil, state)
		left, done := impl.PlanAll(nil, nil, state, gone, nil)
		if f.Code != 0 || len(gone) != len(state) || done != len(gone) || len(left) != 0 {
			t.Fatalf("%q: gone by %q, left %q", impl.StateWrite(state), planText(gone), impl.StateWrite(left))
		}
	}
}

// PlanDo of acts made by chance, of older plans and of other states, held against the model.
func TestPlanDoModel(t *testing.T) {
	r := rand.New(rand.NewSource(23))
	codes := map[int]int{}
	for range 4000 {
		list, state := anyPair(r)
		older, _ := impl.PlanMake(list, nil, anyState(r))
		acts, _ := impl.PlanMake(list, nil, state)
		inputs := anyInputs(r, list)
		for range 4 {
			a, given := anyAct(r, append(older, acts...)), []string{"", "i-1", "i-7", "1234567890123456", "\""}[r.Intn(50)/12]
			got, code := impl.PlanDo(list, inputs, state, a, given)
			want, wantCode := modelDo(list, inputs, state, a, given)
			if code != wantCode || !sameThings(got, want) {
				t.Fatalf("%q, %q, %q: %d, %q, not %d, %q", confText(list), impl.StateWrite(state), planText([]impl.Act{a}), code, impl.StateWrite(got), wantCode, impl.StateWrite(want))
			}
			codes[code]++
		}
	}
	for code := range 5 {
		if codes[code] < 100 {
			t.Errorf("the test is wrong: %v", codes)
		}
	}
}
