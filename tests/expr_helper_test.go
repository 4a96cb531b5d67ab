package tests

import (
	"math/rand"
	"regexp"
	"slices"
	"strconv"
	"strings"
	"unsafe"

	"loop.example/portreeve/impl"
)

func literal(v impl.Value) impl.Expr     { return impl.Expr{Op: impl.ExprValue, Value: v} }
func named(text string) impl.Expr        { return impl.Expr{Op: impl.ExprName, Text: text} }
func ref(id, name string) impl.Expr      { return impl.Expr{Op: impl.ExprRef, Text: id, Name: name} }
func op(o int, k ...impl.Expr) impl.Expr { return impl.Expr{Op: o, Kids: k} }
func one() impl.Expr                     { return literal(number(1)) }

func each(x string, of, what impl.Expr) impl.Expr {
	return impl.Expr{Op: impl.ExprEach, Text: x, Kids: []impl.Expr{of, what}}
}

// shares says whether a text lies within the memory of another one.
func shares(part, whole string) bool {
	if part == "" || whole == "" {
		return false
	}
	at, from := uintptr(unsafe.Pointer(unsafe.StringData(part))), uintptr(unsafe.Pointer(unsafe.StringData(whole)))
	return at >= from && at < from+uintptr(len(whole))
}

// texts is all texts of an expression.
func texts(e impl.Expr) []string {
	list := []string{e.Value.Text, e.Text, e.Name}
	for _, kid := range e.Kids {
		list = append(list, texts(kid)...)
	}
	return list
}

// opWords is the words of the ops, each at its Op; those ahead have none.
var opWords = []string{"", "", "", "", "add", "sub", "cat", "same", "less", "if", "not", "and", "or", "list", "at", "size", "each"}

// opKids is how many kids each Op has; of a list any number will do.
var opKids = []int{0, 0, 0, 0, 2, 2, 2, 2, 2, 3, 1, 2, 2, -1, 2, 1, 2}

// reserved is the names that no X can be.
func reserved() []string {
	return append(slices.Clone(opWords[impl.ExprAdd:]), "null", "true", "false")
}

func sameExpr(a, b impl.Expr) bool {
	return a.Op == b.Op && same(a.Value, b.Value) && a.Text == b.Text && a.Name == b.Name && slices.EqualFunc(a.Kids, b.Kids, sameExpr)
}

// noExpr says whether an expression is the zero one.
func noExpr(e impl.Expr) bool {
	return sameExpr(e, impl.Expr{}) && nothing(e.Value) && e.Kids == nil
}

var idForm = regexp.MustCompile(`^[a-z][a-z0-9]{0,6}\.[a-z][a-z0-9]{0,6}$`)

func modelX(s string) bool {
	return modelName(s) && !slices.Contains(reserved(), s)
}

// modelExpr writes an expression by the document's table, and tells its parts and its levels; false, if it is not what the table says.
func modelExpr(e impl.Expr) (text string, parts int, levels int, ok bool) {
	parts, ok = 1, true
	var kids []string
	for _, kid := range e.Kids {
		t, p, l, o := modelExpr(kid)
		kids, parts, levels, ok = append(kids, t), parts+p, max(levels, l), ok && o
	}
	blank := same(e.Value, impl.Value{})
	switch {
	case e.Op == 1:
		ok = ok && e.Value.Sort < 5 && modelOk(e.Value) && e.Text == "" && e.Name == "" && len(kids) == 0
		if ok {
			text = modelShow(e.Value)
		}
	case e.Op == 2:
		text, ok = e.Text, ok && blank && modelX(e.Text) && e.Name == "" && len(kids) == 0
	case e.Op == 3:
		text, ok = "@"+e.Text+"."+e.Name, ok && blank && idForm.MatchString(e.Text) && modelName(e.Name) && len(kids) == 0
	case e.Op == 13:
		text, ok = "list "+strconv.Itoa(len(kids)), ok && blank && e.Text == "" && e.Name == "" && len(kids) <= 4
	case e.Op == 16:
		text, ok = "each "+e.Text, ok && blank && modelX(e.Text) && e.Name == "" && len(kids) == 2
	case e.Op > 3 && e.Op < 16:
		text, ok = opWords[e.Op], ok && blank && e.Text == "" && e.Name == "" && len(kids) == opKids[e.Op]
	default:
		ok = false
	}
	return strings.Join(append([]string{text}, kids...), " "), parts, levels + 1, ok
}

func modelExprOk(e impl.Expr) bool {
	text, parts, levels, ok := modelExpr(e)
	return ok && len(text) <= 160 && parts <= 24 && levels <= 5
}

// goodExprs is expressions that are ok, of each Op and at each limit.
func goodExprs() []impl.Expr {
	good := []impl.Expr{
		literal(null()), literal(boolean(0)), literal(boolean(1)), literal(number(0)), literal(number(-999999)), literal(number(999999)),
		literal(words("")), literal(words(" ")), literal(words("a b")), literal(words("a  b   c")), literal(words("  ")), literal(words("add 1 2")), literal(words("@vm.a.id")), literal(words("'~[]{}:,?\\")), literal(words("1234567890123456")),
		named("n"), named("x0"), named("abcdefg"), named("nulls"), named("adds"), named("id"), named("end"), named("input"), named("thing"),
		ref("vm.a", "id"), ref("if.add", "null"), ref("true.false", "each"), ref("abcdefg.abcdefg", "abcdefg"), ref("a.b", "c"), ref("a1.b2", "c3"),
		op(impl.ExprList), op(impl.ExprList, one()), op(impl.ExprList, one(), named("n")), op(impl.ExprList, one(), one(), one()), op(impl.ExprList, one(), literal(words("a b")), named("n"), ref("vm.a", "id")),
		each("x", op(impl.ExprList), named("x")), each("x", named("x"), one()), each("x", named("l"), each("y", named("x"), op(impl.ExprAdd, named("x"), named("y")))),
		deep(5), wide(24), long(160),
	}
	for o := impl.ExprAdd; o <= impl.ExprSize; o++ {
		if n := opKids[o]; n > 0 {
			kids := []impl.Expr{named("a"), literal(words("b  c")), op(impl.ExprNot, named("c")), ref("vm.a", "id")}
			good = append(good, op(o, kids[:n]...), op(o, kids[4-n:]...))
		}
	}
	return good
}

// deep has so many levels.
func deep(levels int) impl.Expr {
	e := one()
	for range levels - 1 {
		e = op(impl.ExprNot, e)
	}
	return e
}

// wide has so many parts, 21 to 33, at four levels.
func wide(parts int) impl.Expr {
	var rows []impl.Expr
	for range 4 {
		var row []impl.Expr
		for range 4 {
			kid := one()
			if parts > 21 {
				kid, parts = op(impl.ExprNot, one()), parts-1
			}
			row = append(row, kid)
		}
		rows = append(rows, op(impl.ExprList, row...))
	}
	return op(impl.ExprList, rows...)
}

// long has so many bytes when written, 58 to 186.
func long(size int) impl.Expr {
	size -= 58
	var rows []impl.Expr
	for range 4 {
		var row []impl.Expr
		for range 2 {
			n := min(size, 16)
			row, size = append(row, literal(words(strings.Repeat("x", n)))), size-n
		}
		rows = append(rows, op(impl.ExprList, row...))
	}
	return op(impl.ExprList, rows...)
}

// badExprs is expressions that are not ok, each by one thing.
func badExprs() []impl.Expr {
	bad := []impl.Expr{
		{}, {Op: -1}, {Op: 17}, {Op: 1 << 40}, {Op: -1 << 63}, {Op: impl.ExprValue},
		literal(list()), literal(object("")), literal(unknown()), literal(list(number(1))), literal(object("a", number(1))), literal(number(1000000)), literal(boolean(2)), literal(words("a\"b")), literal(words("\n")), literal(words("12345678901234567")),
		literal(impl.Value{Sort: impl.ValNull, Num: 1}), literal(impl.Value{Sort: impl.ValText, Text: "a", Num: 1}), literal(impl.Value{Sort: impl.ValInt, Kids: []impl.Value{null()}}), literal(impl.Value{Sort: 8}), literal(impl.Value{Sort: -1}),
		named(""), named("N"), named("0"), named("a.b"), named("a b"), named("abcdefgh"), named("é"), named("n "), named("1"), named("\"a\""),
		ref("", "id"), ref("vm", "id"), ref("vm.a", ""), ref("vm.", "id"), ref(".a", "id"), ref("vm.a.b", "id"), ref("vm.a", "b.c"), ref("vm.A", "id"), ref("vm.a", "Id"), ref("vm.abcdefgh", "id"), ref("abcdefgh.a", "id"), ref("vm.a", "abcdefgh"), ref("vm.a", "0"), ref("@vm.a", "id"), ref("vm .a", "id"), ref("vm.0", "id"),
		op(impl.ExprList, one(), one(), one(), one(), one()), each("", one(), one()), each("X", one(), one()), each("a.b", one(), one()), each("abcdefgh", one(), one()),
		deep(6), wide(25), long(161), op(impl.ExprNot, impl.Expr{}), op(impl.ExprAdd, one(), named("N")), op(impl.ExprNot, op(impl.ExprNot, op(impl.ExprNot, op(impl.ExprNot, literal(list()))))),
	}
	for _, word := range reserved() {
		bad = append(bad, named(word), each(word, one(), one()))
	}
	return append(bad, strayExprs()...)
}

// strayExprs is expressions with a part that the table does not give to their Op, or with too few or too many kids.
func strayExprs() []impl.Expr {
	var bad []impl.Expr
	for o := impl.ExprValue; o <= impl.ExprEach; o++ {
		i := slices.IndexFunc(goodExprs(), func(e impl.Expr) bool { return e.Op == o && (o != impl.ExprList || len(e.Kids) == 4) })
		e := goodExprs()[i]
		values := []impl.Value{{Num: 1}, {Text: "a"}, {Names: []string{"a"}}, {Kids: []impl.Value{null()}}, number(1), unknown()}
		for _, v := range values {
			stray := e
			stray.Value = v
			if o != impl.ExprValue || v.Sort != impl.ValInt {
				bad = append(bad, stray, op(impl.ExprNot, stray))
			}
		}
		stray := e
		stray.Text = "n"
		if o != impl.ExprName && o != impl.ExprEach {
			bad = append(bad, stray, op(impl.ExprNot, stray))
		}
		stray = e
		stray.Name = "n"
		if o != impl.ExprRef {
			bad = append(bad, stray, op(impl.ExprNot, stray))
		}
		stray = e
		stray.Kids = append(slices.Clone(e.Kids), one())
		bad = append(bad, stray, op(impl.ExprNot, stray))
		if n := len(e.Kids); n > 0 && o != impl.ExprList {
			stray.Kids = e.Kids[:n-1]
			bad = append(bad, stray, op(impl.ExprNot, stray))
		}
	}
	return bad
}

// endlessExprs is expressions that hold themselves, or very much.
func endlessExprs() []impl.Expr {
	self := make([]impl.Expr, 1)
	self[0] = op(impl.ExprNot, self...)
	four := make([]impl.Expr, 4)
	for i := range four {
		four[i] = impl.Expr{Op: impl.ExprList, Kids: four}
	}
	values := make([]impl.Value, 1)
	values[0] = list(values...)
	huge := strings.Repeat("a", 1<<20)
	return []impl.Expr{
		self[0], four[0], literal(values[0]), {Op: impl.ExprName, Text: "n", Value: values[0]}, {Op: impl.ExprList, Kids: make([]impl.Expr, 1<<20)},
		{Op: impl.ExprValue, Value: null(), Kids: self}, {Op: impl.ExprName, Text: huge}, ref(huge, "a"), ref("a.b", huge), ref(huge+"."+huge, "a"), literal(words(huge)),
	}
}

// anyExpr is some expression, ok more often than not.
func anyExpr(r *rand.Rand, level int) impl.Expr {
	o := 1 + r.Intn(3)
	if level < 5 && r.Intn(3) > 0 || r.Intn(40) == 0 {
		o = 4 + r.Intn(13)
	}
	e := impl.Expr{Op: o}
	switch o {
	case 1:
		e.Value = []impl.Value{null(), boolean(0), boolean(1), number(0), number(-12), number(999999), words(""), words("a b"), words("  "), words("not x"), words("1234567890123456")}[r.Intn(11)]
	case 2:
		e.Text = []string{"n", "x", "y", "name7", "abcdefg"}[r.Intn(5)]
	case 3:
		e.Text, e.Name = []string{"vm.a", "net.b", "vm.b", "if.not"}[r.Intn(4)], []string{"id", "size", "zone"}[r.Intn(3)]
	case 16:
		e.Text = []string{"x", "y"}[r.Intn(2)]
	}
	n := opKids[o]
	if o == 13 {
		n = r.Intn(5)
	}
	for range n {
		e.Kids = append(e.Kids, anyExpr(r, level+1))
	}
	if r.Intn(60) == 0 {
		spoilExpr(r, &e)
	}
	return e
}

func spoilExpr(r *rand.Rand, e *impl.Expr) {
	switch r.Intn(5) {
	case 0:
		e.Op = r.Intn(19) - 1
	case 1:
		e.Value = []impl.Value{null(), number(1), words("a"), list(), unknown(), {Num: 1}}[r.Intn(6)]
	case 2:
		e.Text = []string{"", "x", "if", "vm.a", "X"}[r.Intn(5)]
	case 3:
		e.Name = []string{"", "id", "X", "vm.a"}[r.Intn(4)]
	case 4:
		e.Kids = append(e.Kids, one())
	}
}
