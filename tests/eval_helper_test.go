package tests

import (
	"maps"
	"math/rand"
	"reflect"
	"slices"
	"strconv"
	"strings"

	"loop.example/portreeve/impl"
)

// val reads a value that the test knows to be one.
func val(text string) impl.Value {
	v, ok := impl.ValueParse(text)
	if !ok {
		panic("the test is wrong: " + text)
	}
	return v
}

// vars has of each name and value a text, with a space between.
func vars(list ...string) []impl.Var {
	var all []impl.Var
	for _, text := range list {
		name, v, _ := strings.Cut(text, " ")
		all = append(all, impl.Var{Name: name, Value: val(v)})
	}
	return all
}

// being is a thing, by the text of what it has.
func being(id, attrs string, needs ...string) impl.Thing {
	return impl.Thing{Id: id, Attrs: val(attrs), Needs: needs}
}

func beings(list ...impl.Thing) []impl.Thing { return list }

func sameThing(a, b impl.Thing) bool {
	return a.Id == b.Id && same(a.Attrs, b.Attrs) && slices.Equal(a.Needs, b.Needs)
}

func sameThings(a, b []impl.Thing) bool { return slices.EqualFunc(a, b, sameThing) }

func sameVars(a, b []impl.Var) bool {
	return slices.EqualFunc(a, b, func(a, b impl.Var) bool { return a.Name == b.Name && same(a.Value, b.Value) })
}

func evalFault(at, code int) impl.EvalFault { return impl.EvalFault{At: at, Code: code} }

// hole is what is not known, among values of Go's own.
type hole struct{}

// native is a value by Go's own means.
func native(v impl.Value) any {
	var kids []any
	for _, kid := range v.Kids {
		kids = append(kids, native(kid))
	}
	switch v.Sort {
	case impl.ValBool:
		return v.Num == 1
	case impl.ValInt:
		return v.Num
	case impl.ValText:
		return v.Text
	case impl.ValList:
		return append([]any{}, kids...)
	case impl.ValObject:
		object := map[string]any{}
		for i, name := range v.Names {
			object[name] = kids[i]
		}
		return object
	case impl.ValUnknown:
		return hole{}
	}
	return nil
}

// foreign is native's way back.
func foreign(x any) impl.Value {
	switch x := x.(type) {
	case bool:
		if x {
			return boolean(1)
		}
		return boolean(0)
	case int:
		return number(x)
	case string:
		return words(x)
	case []any:
		v := list()
		for _, kid := range x {
			v.Kids = append(v.Kids, foreign(kid))
		}
		return v
	case map[string]any:
		v := object("")
		for _, name := range slices.Sorted(maps.Keys(x)) {
			v.Names, v.Kids = append(v.Names, name), append(v.Kids, foreign(x[name]))
		}
		return v
	case hole:
		return unknown()
	}
	return null()
}

// whole says whether there is no hole in it.
func whole(x any) bool {
	switch x := x.(type) {
	case hole:
		return false
	case []any:
		return !slices.ContainsFunc(x, func(kid any) bool { return !whole(kid) })
	case map[string]any:
		return whole(slices.Collect(maps.Values(x)))
	}
	return true
}

// modelEnv is what is known: names, and what things have.
type modelEnv struct {
	names  map[string]any
	things map[string]map[string]any
}

// stop is a code, told by a panic.
type stop int

func must(ok bool, code int) {
	if !ok {
		panic(stop(code))
	}
}

// stopped does something, and is the code with which it stopped, or 0.
func stopped(do func()) (code int) {
	defer func() {
		switch x := recover().(type) {
		case nil:
		case stop:
			code = int(x)
		default:
			panic(x)
		}
	}()
	do()
	return 0
}

// modelEval says the document's words on EvalExpr, of what is ok.
func modelEval(env modelEnv, e impl.Expr) any {
	kid := func(i int) any { return modelEval(env, e.Kids[i]) }
	switch e.Op {
	case impl.ExprValue:
		return native(e.Value)
	case impl.ExprName:
		v, ok := env.names[e.Text]
		must(ok, 1)
		return v
	case impl.ExprRef:
		t, there := env.things[e.Text]
		if !there {
			return hole{}
		}
		v, ok := t[e.Name]
		must(ok, 1)
		return v
	case impl.ExprList:
		all := []any{}
		for i := range e.Kids {
			all = append(all, kid(i))
		}
		must(modelOk(foreign(all)), 5)
		return all
	case impl.ExprSame:
		a, b := kid(0), kid(1)
		if !whole(a) || !whole(b) {
			return hole{}
		}
		return reflect.DeepEqual(a, b)
	case impl.ExprIf, impl.ExprAnd, impl.ExprOr, impl.ExprEach:
		return modelChoice(env, e, kid(0))
	}
	var kids []any
	for i := range e.Kids {
		kids = append(kids, kid(i))
	}
	if slices.Contains(kids, any(hole{})) {
		return hole{}
	}
	return modelPlain(e.Op, append(kids, nil)[0], append(kids, nil)[1])
}

func modelChoice(env modelEnv, e impl.Expr, first any) any {
	if first == any(hole{}) {
		return hole{}
	}
	if e.Op == impl.ExprEach {
		l, ok := first.([]any)
		must(ok, 2)
		all := []any{}
		for _, one := range l {
			inner := modelEnv{names: maps.Clone(env.names), things: env.things}
			inner.names[e.Text] = one
			all = append(all, modelEval(inner, e.Kids[1]))
		}
		must(modelOk(foreign(all)), 5)
		return all
	}
	b, ok := first.(bool)
	must(ok, 2)
	if e.Op == impl.ExprIf {
		if b {
			return modelEval(env, e.Kids[1])
		}
		return modelEval(env, e.Kids[2])
	}
	if b == (e.Op == impl.ExprOr) {
		return b
	}
	second := modelEval(env, e.Kids[1])
	_, ok = second.(bool)
	must(ok || second == any(hole{}), 2)
	return second
}

// modelPlain is the ops of known kids.
func modelPlain(o int, a, b any) any {
	i, aInt := a.(int)
	j, bInt := b.(int)
	s, aText := a.(string)
	u, bText := b.(string)
	l, aList := a.([]any)
	c, aBool := a.(bool)
	switch o {
	case impl.ExprAdd, impl.ExprSub:
		must(aInt && bInt, 2)
		if o == impl.ExprSub {
			j = -j
		}
		must(i+j >= -999999 && i+j <= 999999, 3)
		return i + j
	case impl.ExprCat:
		must(aText && bText, 2)
		must(len(s)+len(u) <= 16, 5)
		return s + u
	case impl.ExprLess:
		must(aInt && bInt || aText && bText, 2)
		return aInt && i < j || aText && s < u
	case impl.ExprNot:
		must(aBool, 2)
		return !c
	case impl.ExprAt:
		must(aList && bInt, 2)
		must(j >= 0 && j < len(l), 4)
		return l[j]
	}
	must(aList || aText, 2)
	return len(l) + len(s)
}

// modelExprValue is the document's EvalExpr, whatever it is given.
func modelExprValue(names []impl.Var, things []impl.Thing, e impl.Expr) (v impl.Value, code int) {
	env := modelEnv{names: map[string]any{}, things: map[string]map[string]any{}}
	for _, n := range names {
		if !modelName(n.Name) || !modelOk(n.Value) {
			return impl.Value{}, 6
		}
		env.names[n.Name] = native(n.Value)
	}
	for _, t := range slices.Backward(things) {
		if !idForm.MatchString(t.Id) || t.Attrs.Sort != impl.ValObject || !modelOk(t.Attrs) {
			return impl.Value{}, 6
		}
		env.things[t.Id] = native(t.Attrs).(map[string]any)
	}
	if !modelExprOk(e) {
		return impl.Value{}, 6
	}
	code = stopped(func() { v = foreign(modelEval(env, e)) })
	return v, code
}

// shown is a value's text and its code, as one.
func shown(v impl.Value, code int) string {
	if code != 0 {
		if !nothing(v) {
			return "not nothing, and " + strconv.Itoa(code)
		}
		return "code " + strconv.Itoa(code)
	}
	return impl.ValueShow(v)
}

// knownNames is a name for each sort of value, some of them not known whole.
func knownNames() []impl.Var {
	return vars("z null", "b true", "f false", "n 4", "m -3", "big 999999", "t \"ab\"", "s \"\"", "long \"1234567890123456\"", "l [1,2]", "e []", "p [?,4]", "q [[1],[\"a\"]]", "five [1,2,3,4,5]", "o {a:1,b:[true]}", "h {a:?}", "u ?")
}

func knownThings() []impl.Thing {
	return beings(being("vm.a", `{id:"i",ok:true,size:2,tags:["x",?]}`), being("net.b", "{id:?,list:[1,2,3]}"), being("vm.c", "{}"))
}

// anyOf is an expression that most often comes to a value of a sort.
func anyOf(r *rand.Rand, sort, level int) impl.Expr {
	pick := func(list ...string) impl.Expr { return expr(list[r.Intn(len(list))]) }
	if r.Intn(25) == 0 {
		sort = 2 + r.Intn(4)
	}
	if level >= 5 || r.Intn(3) == 0 {
		switch sort {
		case 2:
			return pick("true", "false", "b", "f", "@vm.a.ok", "u", "@vm.z.ok", "z")
		case 3:
			return pick("1", "0", "-1", "2", "n", "m", "big", "@vm.a.size", "u", "@net.b.id", "x", "y", "none")
		case 4:
			return pick(`"a"`, `"b c"`, "t", "s", "long", "@vm.a.id", "@net.b.id", "@vm.z.id", "x", "y")
		}
		return pick("l", "e", "p", "q", "five", "@net.b.list", "@vm.a.tags", "list 0", "u", "o", "h", "@vm.c.tags")
	}
	sub := func(sort int) impl.Expr { return anyOf(r, sort, level+1) }
	some := 2 + r.Intn(4)
	switch n := r.Intn(6); {
	case n == 0:
		return op(impl.ExprIf, sub(2), sub(sort), sub(sort))
	case n == 1:
		return op(impl.ExprAt, sub(5), sub(3))
	case sort == 2:
		return []impl.Expr{op(impl.ExprNot, sub(2)), op(impl.ExprAnd, sub(2), sub(2)), op(impl.ExprOr, sub(2), sub(2)), op(impl.ExprSame, sub(some), sub(some)), op(impl.ExprLess, sub(3), sub(3)), op(impl.ExprLess, sub(4), sub(4))}[r.Intn(6)]
	case sort == 3:
		return []impl.Expr{op(impl.ExprAdd, sub(3), sub(3)), op(impl.ExprSub, sub(3), sub(3)), op(impl.ExprSize, sub(4+r.Intn(2)))}[r.Intn(3)]
	case sort == 4:
		return op(impl.ExprCat, sub(4), sub(4))
	}
	if r.Intn(2) == 0 {
		return each([]string{"x", "y"}[r.Intn(2)], sub(5), sub(some))
	}
	var kids []impl.Expr
	for range r.Intn(5) {
		kids = append(kids, sub(some))
	}
	return op(impl.ExprList, kids...)
}
