package tests

import (
	"math/rand"
	"slices"
	"strings"
	"testing"

	"loop.example/portreeve/impl"
)

func evalText(text string) string {
	return shown(impl.EvalExpr(knownNames(), knownThings(), expr(text)))
}

// EvalExpr by hand: each Op, its edges, and its codes.
func TestEvalByHand(t *testing.T) {
	for _, c := range []struct{ text, want string }{
		{"null", "null"}, {"true", "true"}, {"-5", "-5"}, {`"a b"`, `"a b"`}, {"n", "4"}, {"h", "{a:?}"}, {"o", "{a:1,b:[true]}"}, {"u", "?"}, {"none", "code 1"},
		{"@vm.a.id", `"i"`}, {"@vm.a.tags", `["x",?]`}, {"@net.b.id", "?"}, {"@vm.a.none", "code 1"}, {"@vm.c.id", "code 1"}, {"@vm.z.id", "?"}, {"@vm.z.none", "?"}, {"add @vm.z.none none", "code 1"},
		{"add 1 2", "3"}, {"sub 1 2", "-1"}, {"add 999999 0", "999999"}, {"add 999998 1", "999999"}, {"add 999999 1", "code 3"}, {"add 999999 999999", "code 3"}, {"add -999999 0", "-999999"}, {"add -999999 -1", "code 3"}, {"sub -999998 1", "-999999"}, {"sub -999999 1", "code 3"}, {"sub 999998 -1", "999999"}, {"sub 999999 -1", "code 3"}, {"sub -999999 -999999", "0"}, {"add 999999 -999999", "0"}, {"sub 0 999999", "-999999"},
		{"add u true", "?"}, {"add true u", "?"}, {"add t u", "?"}, {"add u none", "code 1"}, {"add none u", "code 1"}, {"add p 1", "code 2"}, {"add true none", "code 1"}, {"add none true", "code 1"}, {"add at l 9 none", "code 4"}, {"add none at l 9", "code 1"}, {"add not 1 add big 1", "code 2"}, {"add add big 1 not 1", "code 3"}, {"add 1 add big 1", "code 3"}, {"add cat long t none", "code 5"},
		{`cat "a" "b"`, `"ab"`}, {`cat "" ""`, `""`}, {`cat "12345678" "12345678"`, `"1234567812345678"`}, {`cat "12345678" "123456789"`, "code 5"}, {"cat long s", `"1234567890123456"`}, {"cat s long", `"1234567890123456"`}, {`cat long "x"`, "code 5"}, {"cat long long", "code 5"}, {"cat t 1", "code 2"}, {"cat 1 t", "code 2"}, {"cat u 1", "?"}, {"cat long u", "?"}, {"cat l l", "code 2"}, {"cat z t", "code 2"},
		{"same 1 1", "true"}, {"same 1 2", "false"}, {"same 1 true", "false"}, {`same 1 "1"`, "false"}, {"same null null", "true"}, {"same null false", "false"}, {"same 0 false", "false"}, {"same l list 2 1 2", "true"}, {"same l list 2 2 1", "false"}, {"same l list 1 1", "false"}, {"same e list 0", "true"}, {"same o o", "true"}, {"same o l", "false"}, {`same "" null`, "false"},
		{"same u u", "?"}, {"same u 1", "?"}, {"same 1 u", "?"}, {"same p p", "?"}, {"same p 1", "?"}, {"same 1 h", "?"}, {"same l p", "?"}, {"same u none", "code 1"}, {"same none u", "code 1"}, {"same at l 2 none", "code 4"},
		{"less 1 2", "true"}, {"less 2 1", "false"}, {"less 1 1", "false"}, {"less -2 -1", "true"}, {`less "a" "b"`, "true"}, {`less "b" "a"`, "false"}, {`less "a" "ab"`, "true"}, {`less "ab" "a"`, "false"}, {`less "" "a"`, "true"}, {`less "Z" "a"`, "true"}, {`less "10" "9"`, "true"}, {`less "a" "a"`, "false"}, {`less 1 "b"`, "code 2"}, {`less "a" 2`, "code 2"}, {"less true false", "code 2"}, {"less l l", "code 2"}, {"less null null", "code 2"}, {"less u l", "?"}, {"less l u", "?"},
		{"not true", "false"}, {"not false", "true"}, {"not u", "?"}, {"not 1", "code 2"}, {"not null", "code 2"}, {"not p", "code 2"}, {"not none", "code 1"},
		{"size l", "2"}, {"size e", "0"}, {"size p", "2"}, {"size five", "5"}, {"size t", "2"}, {"size s", "0"}, {"size long", "16"}, {"size o", "code 2"}, {"size 1", "code 2"}, {"size u", "?"}, {"size true", "code 2"},
		{"at l 0", "1"}, {"at l 1", "2"}, {"at l 2", "code 4"}, {"at l -1", "code 4"}, {"at e 0", "code 4"}, {"at five 4", "5"}, {"at five 5", "code 4"}, {"at p 0", "?"}, {"at p 1", "4"}, {"at l u", "?"}, {"at u 9", "?"}, {"at u t", "?"}, {"at l true", "code 2"}, {"at l t", "code 2"}, {"at t 0", "code 2"}, {"at o 0", "code 2"}, {"at 0 l", "code 2"}, {"at l 999999", "code 4"}, {"at l -999999", "code 4"},
		{"list 0", "[]"}, {"list 2 u none", "code 1"}, {"list 3 1 u t", `[1,?,"ab"]`}, {"list 1 list 1 list 0", "[[[]]]"}, {"list 1 q", "code 5"}, {"list 1 list 1 list 1 1", "code 5"}, {"list 1 l", "[[1,2]]"}, {"list 2 five five", "[[1,2,3,4,5],[1,2,3,4,5]]"}, {"list 3 five five l", "[[1,2,3,4,5],[1,2,3,4,5],[1,2]]"}, {"list 4 five five l null", "code 5"}, {"list 3 five five list 3 1 2 3", "code 5"}, {"list 1 h", "[{a:?}]"}, {"list 1 o", "code 5"}, {"list 2 add 1 t none", "code 2"},
	} {
		if got := evalText(c.text); got != c.want {
			t.Errorf("%s: %s, not %s", c.text, got, c.want)
		}
	}
}

// P63: the part of an if that is not chosen, and all that need not be evaluated, has no code.
func TestEvalChoices(t *testing.T) {
	for _, c := range []struct{ text, want string }{
		{"if true 1 none", "1"}, {"if false none 2", "2"}, {"if u none none", "?"}, {"if 1 none none", "code 2"}, {"if none 1 2", "code 1"}, {"if null 1 2", "code 2"}, {"if l 1 2", "code 2"}, {"if true u 1", "?"}, {"if true l none", "[1,2]"}, {"if true none 1", "code 1"}, {"if false 1 none", "code 1"}, {"if at p 0 none none", "?"}, {"if p 1 1", "code 2"}, {"if @vm.z.ok none none", "?"},
		{"and true true", "true"}, {"and true false", "false"}, {"and false true", "false"}, {"and false none", "false"}, {"and false 1", "false"}, {"and true none", "code 1"}, {"and true 1", "code 2"}, {"and true u", "?"}, {"and true null", "code 2"}, {"and true p", "code 2"}, {"and u none", "?"}, {"and u 1", "?"}, {"and u false", "?"}, {"and 1 false", "code 2"}, {"and t none", "code 2"}, {"and none false", "code 1"}, {"and false u", "false"},
		{"or true none", "true"}, {"or true 1", "true"}, {"or false true", "true"}, {"or false false", "false"}, {"or false none", "code 1"}, {"or false 1", "code 2"}, {"or false u", "?"}, {"or false l", "code 2"}, {"or u none", "?"}, {"or u true", "?"}, {"or 0 true", "code 2"}, {"or none true", "code 1"}, {"or true u", "true"},
		{"each x l x", "[1,2]"}, {"each x l add x n", "[5,6]"}, {"each x e none", "[]"}, {"each x list 0 add 1 t", "[]"}, {"each x u none", "?"}, {"each x n none", "code 2"}, {"each x t none", "code 2"}, {"each x o none", "code 2"}, {"each x none x", "code 1"}, {"each x l none", "code 1"}, {"each x p x", "[?,4]"}, {"each x p add x 1", "[?,5]"}, {"each x l u", "[?,?]"}, {"each n l n", "[1,2]"}, {"each x l add n each x l x", "code 2"}, {"each x l at each x list 2 7 8 x 0", "[7,7]"}, {"each x l each y l add x y", "[[2,3],[3,4]]"}, {"each x l list 2 x each y l add x y", "code 5"}, {"each x l each x q x", "code 5"},
		{"each x list 2 1 t add x 1", "code 2"}, {"each x list 2 t none add x 1", "code 1"}, {"each x list 2 999998 999999 add x 1", "code 3"}, {"each x list 2 0 2 at l x", "code 4"}, {"each x list 3 2 t 0 at l x", "code 4"}, {"each x list 3 t 2 0 at l x", "code 2"}, {"each x five list 2 x x", "[[1,1],[2,2],[3,3],[4,4],[5,5]]"}, {"each x five list 3 x x x", "code 5"}, {"each x l list 1 list 0", "[[[]],[[]]]"}, {"each x l list 1 list 1 1", "code 5"}, {"each x l list 1 h", "code 5"}, {"list 2 each x l x x", "code 1"},
	} {
		if got := evalText(c.text); got != c.want {
			t.Errorf("%s: %s, not %s", c.text, got, c.want)
		}
	}
}

// Each Op over each sort of kids, and codes among them, held against the model.
func TestEvalEachOp(t *testing.T) {
	kids := []impl.Expr{expr("z"), expr("b"), expr("f"), expr("n"), expr("0"), expr("big"), expr("t"), expr("long"), expr("l"), expr("p"), expr("o"), expr("h"), expr("u"), expr("none"), expr("not 1"), expr("add big 1"), expr("at l 2"), expr("cat long t"), expr("@vm.a.size"), expr("@vm.z.id"), expr("@vm.a.none"), expr("x")}
	for o := impl.ExprAdd; o <= impl.ExprEach; o++ {
		n := opKids[o]
		if o == impl.ExprList {
			n = 2
		}
		for i := range len(kids) * len(kids) * len(kids) {
			a, b, c := i%len(kids), i/len(kids)%len(kids), i/len(kids)/len(kids)
			if n < 3 && c > 0 || n < 2 && b > 0 {
				break
			}
			e := op(o, []impl.Expr{kids[a], kids[b], kids[c]}[:n]...)
			if o == impl.ExprEach {
				e.Text = "x"
			}
			want := shown(modelExprValue(knownNames(), knownThings(), e))
			if got := shown(impl.EvalExpr(knownNames(), knownThings(), e)); got != want {
				t.Fatalf("%s: %s, not %s", impl.ExprWrite(e), got, want)
			}
		}
	}
}

// EvalConf comes ahead of all other codes.
func TestEvalBadArguments(t *testing.T) {
	good := expr("none")
	for i, e := range append(badExprs(), endlessExprs()...) {
		if got := shown(impl.EvalExpr(knownNames(), knownThings(), e)); got != "code 6" {
			t.Errorf("bad expression %d: %s", i, got)
		}
	}
	for _, name := range []string{"", "N", "0", "a.b", "abcdefgh", "a b", "é"} {
		bad := append(knownNames(), impl.Var{Name: name, Value: null()})
		slices.Reverse(bad)
		if got := shown(impl.EvalExpr(bad, nil, good)); got != "code 6" {
			t.Errorf("a name %q: %s", name, got)
		}
	}
	for _, id := range []string{"", "vm", "vm.", ".a", "vm.a.b", "VM.a", "abcdefgh.a", "vm.a "} {
		bad := append(knownThings(), impl.Thing{Id: id, Attrs: object("")})
		if got := shown(impl.EvalExpr(nil, bad, good)); got != "code 6" {
			t.Errorf("an id %q: %s", id, got)
		}
	}
	for i, v := range badValues() {
		if got := shown(impl.EvalExpr([]impl.Var{{Name: "n", Value: v}}, nil, good)); got != "code 6" {
			t.Errorf("bad value %d: %s", i, got)
		}
		if got := shown(impl.EvalExpr(nil, []impl.Thing{{Id: "vm.a", Attrs: v}}, good)); got != "code 6" {
			t.Errorf("bad attributes %d: %s", i, got)
		}
	}
	for _, v := range goodValues() {
		want := "code 6"
		if v.Sort == impl.ValObject {
			want = "1"
		}
		if got := shown(impl.EvalExpr([]impl.Var{{Name: "if", Value: v}}, []impl.Thing{{Id: "vm.a", Attrs: v, Needs: []string{"what", ""}}}, one())); got != want {
			t.Errorf("attributes %s: %s", impl.ValueShow(v), got)
		}
	}
}

// Of names the last counts, of things the first.
func TestEvalTwice(t *testing.T) {
	names := vars("n 1", "m 2", "n 3", "m ?")
	things := beings(being("vm.a", "{size:1}"), being("vm.b", "{size:2}"), being("vm.a", "{size:3,zone:4}"))
	for text, want := range map[string]string{"n": "3", "m": "?", "@vm.a.size": "1", "@vm.a.zone": "code 1", "@vm.b.size": "2"} {
		if got := shown(impl.EvalExpr(names, things, expr(text))); got != want {
			t.Errorf("%s: %s, not %s", text, got, want)
		}
	}
	if got := shown(impl.EvalExpr(nil, nil, expr("n"))); got != "code 1" {
		t.Error("a name of none:", got)
	}
}

// P8, P15, P63 and P64, over expressions made by chance, held against the model.
func TestEvalModel(t *testing.T) {
	r := rand.New(rand.NewSource(6))
	codes := map[int]int{}
	for range 12000 {
		e := anyOf(r, 2+r.Intn(4), 1)
		names, things := knownNames(), knownThings()
		v, code := impl.EvalExpr(names, things, e)
		want, wantCode := modelExprValue(names, things, e)
		if code != wantCode || !same(v, want) {
			t.Fatalf("%s: %s, not %s", impl.ExprWrite(e), shown(v, code), shown(want, wantCode))
		}
		codes[code]++
		if code != 6 {
			checkAsked(t, names, things, e)
			checkMore(t, names, things, e)
			checkIf(t, names, things, e)
			checkEach(t, names, things, e)
		}
	}
	for code := range 7 {
		if codes[code] < 30 {
			t.Errorf("the test is wrong: %v", codes)
		}
	}
}

// checkAsked is P8: only the things that are asked of count.
func checkAsked(t *testing.T, names []impl.Var, things []impl.Thing, e impl.Expr) {
	t.Helper()
	refs := impl.ExprRefs(e)
	var asked []impl.Thing
	for _, one := range things {
		if slices.Contains(refs, one.Id) {
			asked = append(asked, one)
		}
	}
	want := shown(impl.EvalExpr(names, things, e))
	if got := shown(impl.EvalExpr(names, asked, e)); got != want {
		t.Fatalf("%s: %s without those that are not asked of, else %s", impl.ExprWrite(e), got, want)
	}
	more := append(slices.Clone(asked), being("zz.other", "{id:1,none:2}"))
	if got := shown(impl.EvalExpr(names, more, e)); got != want {
		t.Fatalf("%s: %s with another one, else %s", impl.ExprWrite(e), got, want)
	}
}

// checkMore is P15: what is known stays, when a thing is there more.
func checkMore(t *testing.T, names []impl.Var, things []impl.Thing, e impl.Expr) {
	t.Helper()
	things = append(things, being("vm.z", `{id:"j",ok:true}`))
	for i := range things {
		fewer := slices.Delete(slices.Clone(things), i, i+1)
		before, code := impl.EvalExpr(names, fewer, e)
		after, later := impl.EvalExpr(names, things, e)
		if code == 0 && later == 0 && !impl.ValueFits(after, before) {
			t.Fatalf("%s: %s, and with %s %s", impl.ExprWrite(e), impl.ValueShow(before), things[i].Id, impl.ValueShow(after))
		}
	}
}

// checkIf is P63.
func checkIf(t *testing.T, names []impl.Var, things []impl.Thing, e impl.Expr) {
	t.Helper()
	yes, no := op(impl.ExprIf, literal(boolean(1)), e, named("none")), op(impl.ExprIf, literal(boolean(0)), named("none"), e)
	if !impl.ExprOk(yes) || !impl.ExprOk(no) {
		return
	}
	want := shown(impl.EvalExpr(names, things, e))
	a, b := shown(impl.EvalExpr(names, things, yes)), shown(impl.EvalExpr(names, things, no))
	if a != want || b != want {
		t.Fatalf("%s: %s, chosen %s and %s", impl.ExprWrite(e), want, a, b)
	}
}

// checkEach is P64.
func checkEach(t *testing.T, names []impl.Var, things []impl.Thing, e impl.Expr) {
	t.Helper()
	both := each("x", named("pair"), e)
	if !impl.ExprOk(both) {
		return
	}
	a, first := impl.EvalExpr(append(names, vars("x 1")...), things, e)
	b, second := impl.EvalExpr(append(names, vars("x ?")...), things, e)
	v, code := impl.EvalExpr(append(names, vars("pair [1,?]")...), things, both)
	want := list(a, b)
	switch {
	case first != 0 || second != 0:
		if code != first && (first != 0 || code != second) {
			t.Fatalf("%s: code %d, of its parts %d and %d", impl.ExprWrite(both), code, first, second)
		}
	case !impl.ValueOk(want):
		if code != impl.EvalBig {
			t.Fatalf("%s: code %d", impl.ExprWrite(both), code)
		}
	case code != 0 || !same(v, want):
		t.Fatalf("%s: %s, not %s", impl.ExprWrite(both), shown(v, code), impl.ValueShow(want))
	}
}

// P65: numbers are right, or too great.
func TestEvalNumbers(t *testing.T) {
	edges := []int{0, 1, -1, 2, 499999, 500000, -500000, 999998, -999998, 999999, -999999, 333333}
	for _, a := range edges {
		for _, b := range edges {
			for o, right := range map[int]int{impl.ExprAdd: a + b, impl.ExprSub: a - b} {
				v, code := impl.EvalExpr(nil, nil, op(o, literal(number(a)), literal(number(b))))
				over := right > 999999 || right < -999999
				if over && (code != impl.EvalOver || !nothing(v)) || !over && (code != 0 || !same(v, number(right))) {
					t.Errorf("%d and %d come to %s", a, b, shown(v, code))
				}
			}
		}
	}
}

// Answers are new memory, of which no two lists share any, and arguments stay as they are.
func TestEvalMemory(t *testing.T) {
	names := []impl.Var{{Name: "l", Value: list(words("abc"), number(1))}}
	things := beings(being("vm.a", `{id:"i-1",tags:["x"]}`))
	v, _ := impl.EvalExpr(names, things, expr("list 2 l l"))
	v.Kids[0].Kids[1] = null()
	v.Kids[0].Kids = append(v.Kids[0].Kids, null())
	if !same(v.Kids[1], names[0].Value) || impl.ValueShow(names[0].Value) != `["abc",1]` {
		t.Error("lists share memory")
	}
	if shares(v.Kids[1].Kids[0].Text, names[0].Value.Kids[0].Text) {
		t.Error("a text lies within an argument")
	}
	ref, _ := impl.EvalExpr(nil, things, expr("@vm.a.tags"))
	ref.Kids[0] = null()
	object, _ := impl.EvalExpr(vars("o {a:1}"), nil, expr("o"))
	object.Names[0] = "x"
	if impl.ValueShow(things[0].Attrs) != `{id:"i-1",tags:["x"]}` {
		t.Error("an argument is changed")
	}
	text := literal(words(strings.Repeat("y", 3)))
	if v, _ := impl.EvalExpr(nil, nil, text); shares(v.Text, text.Value.Text) {
		t.Error("a text lies within the expression")
	}
}
