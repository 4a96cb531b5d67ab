package tests

import (
	"maps"
	"math/rand"
	"reflect"
	"slices"
	"strconv"
	"strings"

	"loop.example/portreeve/impl"
)

// conf reads a configuration that the test knows to be one.
func conf(list ...string) []impl.Block {
	b, f := impl.ConfParse(lines(list...))
	if f.Code != 0 {
		panic("the test is wrong: " + lines(list...))
	}
	return b
}

// plan reads acts that the test knows to be some.
func plan(list ...string) []impl.Act {
	acts, ok := impl.PlanRead(lines(list...))
	if !ok {
		panic("the test is wrong: " + lines(list...))
	}
	return acts
}

func act(line string) impl.Act { return plan(line)[0] }

func sameAct(a, b impl.Act) bool {
	return a.Kind == b.Kind && a.Id == b.Id && same(a.Attrs, b.Attrs) && slices.Equal(a.Needs, b.Needs)
}

func sameActs(a, b []impl.Act) bool { return slices.EqualFunc(a, b, sameAct) }

// modelIds says whether all are ids, ascending.
func modelIds(list []string) bool {
	for i, id := range list {
		if !idForm.MatchString(id) || i > 0 && list[i-1] >= id {
			return false
		}
	}
	return true
}

// modelState says the document's words on StateOk.
func modelState(state []impl.Thing) bool {
	if len(state) > 10 {
		return false
	}
	var ids []string
	var needs []impl.Need
	for i, t := range state {
		ids = append(ids, t.Id)
		if t.Attrs.Sort != impl.ValObject || !modelOk(t.Attrs) || !whole(native(t.Attrs)) || !modelIds(t.Needs) || slices.Contains(t.Needs, t.Id) {
			return false
		}
		if _, ok := native(t.Attrs).(map[string]any)["id"].(string); !ok {
			return false
		}
		for j, other := range state {
			if slices.Contains(t.Needs, other.Id) {
				needs = append(needs, impl.Need{Of: i, On: j})
			}
		}
	}
	return modelIds(ids) && len(modelComes(len(state), needs)) == len(state)
}

// modelThing is a thing by Go's own means.
type modelThing struct {
	attrs map[string]any
	needs []string
}

// modelWorld is things by their ids.
type modelWorld map[string]modelThing

func worldOf(state []impl.Thing) modelWorld {
	w := modelWorld{}
	for _, t := range state {
		w[t.Id] = modelThing{attrs: native(t.Attrs).(map[string]any), needs: t.Needs}
	}
	return w
}

func (w modelWorld) things(ids []string) []impl.Thing {
	var all []impl.Thing
	for _, id := range ids {
		all = append(all, impl.Thing{Id: id, Attrs: foreign(w[id].attrs), Needs: w[id].needs})
	}
	return all
}

// modelAnew says whether a thing must be made anew.
func modelAnew(had, has map[string]any) bool {
	was, old := had["zone"]
	is, now := has["zone"]
	return old != now || old && (!whole(is) || !reflect.DeepEqual(was, is))
}

// modelWanted is EvalWant: the ids in order, what they are to be, and outputs.
type modelWanted struct {
	order   []string
	world   modelWorld
	outputs []impl.Var
}

// modelWant says the document's words on EvalWant.
func modelWant(list []impl.Block, inputs []impl.Var, state []impl.Thing) (w modelWanted, f impl.EvalFault) {
	if modelCheck(list).Code != 0 || !modelState(state) {
		return w, evalFault(0, 6)
	}
	given := map[string]any{}
	for _, v := range inputs {
		_, twice := given[v.Name]
		is := slices.ContainsFunc(list, func(b impl.Block) bool { return b.Kind == 1 && b.Name == v.Name })
		if !is || twice || !modelOk(v.Value) || !whole(native(v.Value)) {
			return w, evalFault(0, 1)
		}
		given[v.Name] = native(v.Value)
	}
	env := modelEnv{names: map[string]any{}, things: map[string]map[string]any{}}
	w.world = modelWorld{}
	at := 0
	code := stopped(func() {
		for i, b := range list {
			at = i + 1
			if v, ok := given[b.Name]; b.Kind == 1 && ok {
				env.names[b.Name] = v
			} else if b.Kind < 3 {
				env.names[b.Name] = modelEval(env, b.Expr)
			}
		}
		for _, i := range modelComes(len(list), modelNeeds(list)) {
			at = i + 1
			if list[i].Kind == 3 {
				modelWantThing(&w, env, list, i, worldOf(state))
			}
		}
		for i, b := range list {
			at = i + 1
			if b.Kind == 4 {
				w.outputs = append(w.outputs, impl.Var{Name: b.Name, Value: foreign(modelEval(env, b.Expr))})
			}
		}
	})
	if code != 0 {
		return modelWanted{}, evalFault(at, code)
	}
	return w, evalFault(0, 0)
}

func modelWantThing(w *modelWanted, env modelEnv, list []impl.Block, at int, state modelWorld) {
	b, attrs := list[at], map[string]any{}
	for _, a := range b.Attrs {
		attrs[a.Name] = modelEval(env, a.Expr)
	}
	must(modelOk(foreign(attrs)), 5)
	var needs []string
	for _, need := range modelNeeds(list) {
		if need.Of == at {
			needs = append(needs, list[need.On].Id)
		}
	}
	slices.Sort(needs)
	old, there := state[b.Id]
	anew := there && modelAnew(old.attrs, attrs)
	attrs["id"] = any(hole{})
	if there && !anew {
		attrs["id"] = old.attrs["id"]
	}
	must(modelOk(foreign(attrs)), 5)
	env.things[b.Id] = attrs
	w.order, w.world[b.Id] = append(w.order, b.Id), modelThing{attrs: attrs, needs: slices.Compact(needs)}
}

// modelAct is what is to be done with a thing that is to be; the Kind 0, if nothing is.
func modelAct(w modelWanted, state modelWorld, id string) impl.Act {
	want := w.world[id]
	attrs := maps.Clone(want.attrs)
	delete(attrs, "id")
	a := impl.Act{Id: id, Attrs: foreign(attrs), Needs: want.needs}
	old, there := state[id]
	oldAttrs := maps.Clone(old.attrs)
	delete(oldAttrs, "id")
	switch {
	case !there:
		a.Kind = 1
	case modelAnew(old.attrs, attrs):
		a.Kind = 3
	case !whole(attrs) || !reflect.DeepEqual(attrs, oldAttrs) || !slices.Equal(old.needs, want.needs):
		a.Kind = 2
	}
	return a
}

// modelPlan says the document's words on PlanMake.
func modelPlan(list []impl.Block, inputs []impl.Var, state []impl.Thing) ([]impl.Act, impl.EvalFault) {
	w, f := modelWant(list, inputs, state)
	if f.Code != 0 {
		return nil, f
	}
	var acts []impl.Act
	for _, id := range w.order {
		if a := modelAct(w, worldOf(state), id); a.Kind != 0 {
			acts = append(acts, a)
		}
	}
	var needs []impl.Need
	for i, t := range state {
		for j, other := range state {
			if slices.Contains(t.Needs, other.Id) {
				needs = append(needs, impl.Need{Of: i, On: j})
			}
		}
	}
	for _, i := range slices.Backward(modelComes(len(state), needs)) {
		if _, kept := w.world[state[i].Id]; !kept {
			acts = append(acts, impl.Act{Kind: 4, Id: state[i].Id, Attrs: object("")})
		}
	}
	return acts, f
}

// modelActOk says the document's words on acts that are ok.
func modelActOk(a impl.Act) bool {
	if a.Kind < 1 || a.Kind > 4 || !idForm.MatchString(a.Id) || a.Attrs.Sort != 6 || !modelOk(a.Attrs) || !modelIds(a.Needs) {
		return false
	}
	return !slices.Contains(a.Attrs.Names, "id") && (a.Kind != 4 || len(a.Attrs.Names)+len(a.Needs) == 0)
}

// modelDo says the document's words on PlanDo.
func modelDo(list []impl.Block, inputs []impl.Var, state []impl.Thing, a impl.Act, given string) ([]impl.Thing, int) {
	if !modelActOk(a) || !modelState(state) || !modelOk(words(given)) {
		return nil, 1
	}
	w, f := modelWant(list, inputs, state)
	if f.Code != 0 {
		return state, 4
	}
	world := worldOf(state)
	old, there := world[a.Id]
	_, wanted := w.world[a.Id]
	if a.Kind == 4 {
		if wanted || !there {
			return state, 2
		}
		delete(world, a.Id)
		return world.things(slices.Sorted(maps.Keys(world))), 0
	}
	if !wanted || there && a.Kind == 1 || !there && a.Kind != 1 {
		return state, 2
	}
	now := modelAct(w, world, a.Id)
	if !impl.ValueFits(now.Attrs, a.Attrs) || !slices.Equal(now.Needs, a.Needs) || a.Kind == 2 && now.Kind == 3 {
		return state, 2
	}
	if a.Kind == 2 && now.Kind == 0 {
		return state, 0
	}
	attrs := native(now.Attrs).(map[string]any)
	if !whole(attrs) {
		return state, 3
	}
	attrs["id"] = given
	if a.Kind == 2 {
		attrs["id"] = old.attrs["id"]
	}
	world[a.Id] = modelThing{attrs: attrs, needs: now.Needs}
	next := world.things(slices.Sorted(maps.Keys(world)))
	if !modelState(next) {
		return state, 1
	}
	return next, 0
}

// planIds is the ids of which configurations made by chance have some; each may ask of those behind it in a mix.
var planIds = []string{"db.x", "net.a", "net.b", "vm.a", "vm.b", "vm.c"}

// anyConf is a configuration made by chance; rings do not come, as things ask only of those ahead in a mix.
func anyConf(r *rand.Rand) []impl.Block {
	pick := func(list ...string) string { return list[r.Intn(len(list))] }
	text := []string{"input n " + pick("1", "2", "999999"), "input z " + pick(`"eu"`, `"us"`), "let m " + pick("add n 1", "sub n 1", "list 2 n n", "if less n 2 z null")}[:r.Intn(4)]
	plain := [][]string{{"1", "2", `"a"`, "list 2 1 2", "null"}, {"n", "sub n 1"}, {"z"}, {"m", "list 1 m"}}
	var names []string
	for _, list := range plain[:len(text)+1] {
		names = append(names, list...)
	}
	var ahead, asks []string
	for _, i := range r.Perm(len(planIds))[:r.Intn(5)] {
		id := planIds[i]
		text = append(text, "thing "+id)
		for _, name := range []string{"link", "size", "tag", "zone"} {
			if r.Intn(2) == 0 {
				continue
			}
			e := pick(names...)
			switch {
			case name == "zone" && r.Intn(2) == 0:
				e = pick(`"eu"`, `"us"`)
			case len(ahead) > 0 && (name == "link" || r.Intn(4) == 0):
				e = pick(asks...)
			}
			text = append(text, "  "+name+" "+e)
			if name != "link" {
				asks = append(asks, "@"+id+"."+name)
			}
		}
		ahead = append(ahead, id)
		asks = append(asks, "@"+id+".id", "@"+id+".id", "cat @"+id+`.id "-x"`, "if same @"+id+`.id "i-1" "eu" "us"`, "list 1 @"+id+".id", `if same "x" @`+id+`.id 1 1`)
		text = append(text, "end")
	}
	if r.Intn(3) == 0 {
		text = append(text, "output o "+pick(append(asks, names...)...))
	}
	return mixed(r, text)
}

// mixed is a configuration with its things in any order.
func mixed(r *rand.Rand, text []string) []impl.Block {
	list, f := impl.ConfParse(lines(text...))
	if f.Code != 0 {
		return anyConf(r)
	}
	first := slices.IndexFunc(list, func(b impl.Block) bool { return b.Kind == 3 })
	if first >= 0 {
		r.Shuffle(len(list)-first, func(i, j int) { list[first+i], list[first+j] = list[first+j], list[first+i] })
	}
	return list
}

// anyGiven is ids of the world; few of them, so that some meet.
func anyGiven(r *rand.Rand) []string {
	var given []string
	for range r.Intn(4) {
		given = append(given, "i-"+strconv.Itoa(r.Intn(6)))
	}
	return given
}

// anyInputs is inputs for a configuration, right more often than not.
func anyInputs(r *rand.Rand, from []impl.Block) []impl.Var {
	var inputs []impl.Var
	for _, b := range from {
		if b.Kind == impl.BlockInput && r.Intn(3) == 0 {
			inputs = append(inputs, impl.Var{Name: b.Name, Value: []impl.Value{b.Expr.Value, number(1), number(7), words("eu"), list(words("us"))}[r.Intn(5)]})
		}
	}
	if r.Intn(30) == 0 {
		inputs = append(inputs, impl.Var{Name: []string{"n", "m", "q", ""}[r.Intn(4)], Value: []impl.Value{null(), unknown(), {}, list(unknown())}[r.Intn(4)]})
	}
	return inputs
}

// anyState is a state that some configurations left behind, perhaps not all of their acts done.
func anyState(r *rand.Rand) []impl.Thing {
	var state []impl.Thing
	for range r.Intn(4) {
		list := anyConf(r)
		acts, _ := impl.PlanMake(list, nil, state)
		state, _ = impl.PlanAll(list, nil, state, acts[:r.Intn(len(acts)+1)], anyGiven(r))
	}
	return state
}

// anyPair is a configuration and a state, which are about as often as not almost of one kind.
func anyPair(r *rand.Rand) ([]impl.Block, []impl.Thing) {
	list, state := anyConf(r), anyState(r)
	if r.Intn(2) == 0 {
		return list, state
	}
	acts, _ := impl.PlanMake(list, nil, state)
	state, _ = impl.PlanAll(list, nil, state, acts, anyGiven(r))
	return variant(r, list), state
}

// variant is a configuration with one attribute changed or left out, if that can be.
func variant(r *rand.Rand, list []impl.Block) []impl.Block {
	other := slices.Clone(list)
	for _, i := range r.Perm(len(other)) {
		b := &other[i]
		if len(b.Attrs) == 0 {
			continue
		}
		b.Attrs = slices.Clone(b.Attrs)
		at := r.Intn(len(b.Attrs))
		if r.Intn(3) == 0 {
			b.Attrs = slices.Delete(b.Attrs, at, at+1)
		} else {
			b.Attrs[at].Expr = []impl.Expr{literal(number(r.Intn(5))), literal(words("us")), expr("list 2 1 2")}[r.Intn(3)]
		}
		break
	}
	if impl.ConfCheck(other).Code != 0 {
		return list
	}
	return other
}

// anyAct is an act made by chance, most often about something that there is.
func anyAct(r *rand.Rand, acts []impl.Act) impl.Act {
	a := impl.Act{Kind: 1 + r.Intn(4), Id: planIds[r.Intn(len(planIds))], Attrs: object("")}
	if len(acts) > 0 && r.Intn(5) > 0 {
		a = acts[r.Intn(len(acts))]
	}
	switch r.Intn(12) {
	case 0:
		a.Kind = r.Intn(6)
	case 1:
		a.Id = planIds[r.Intn(len(planIds))]
	case 2:
		a.Attrs = []impl.Value{object(""), object("zone", unknown()), object("size", number(1)), object("id", words("i")), unknown(), {}, object("size tag zone", unknown(), unknown(), unknown())}[r.Intn(7)]
	case 3:
		a.Needs = [][]string{nil, {"net.a"}, {"net.a", "vm.b"}, {"vm.b", "net.a"}, {"what"}}[r.Intn(5)]
	case 4:
		a.Attrs = foreign(holes(native(a.Attrs)))
	}
	return a
}

// holes is an object of which nothing is known but its names.
func holes(x any) any {
	object, ok := x.(map[string]any)
	if !ok {
		return x
	}
	for name := range object {
		object[name] = any(hole{})
	}
	return object
}

// planText says the document's words on PlanWrite.
func planText(acts []impl.Act) string {
	text := ""
	for _, a := range acts {
		if !modelActOk(a) {
			return ""
		}
		words := []string{[]string{"create", "update", "replace", "delete"}[a.Kind-1], a.Id}
		if a.Kind != 4 {
			words = append(append(words, modelShow(a.Attrs)), a.Needs...)
		}
		text += strings.Join(words, " ") + "\n"
	}
	if len(text) > 4000 {
		return ""
	}
	return text
}
