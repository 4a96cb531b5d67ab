package tests

import (
	"math/rand"
	"regexp"
	"slices"
	"strconv"
	"strings"

	"loop.example/portreeve/impl"
)

// expr reads an expression that the test knows to be one.
func expr(text string) impl.Expr {
	e, ok := impl.ExprParse(text)
	if !ok {
		panic("the test is wrong: " + text)
	}
	return e
}

func input(name, e string) impl.Block {
	return impl.Block{Kind: impl.BlockInput, Name: name, Expr: expr(e)}
}

func let(name, e string) impl.Block {
	return impl.Block{Kind: impl.BlockLet, Name: name, Expr: expr(e)}
}

func output(name, e string) impl.Block {
	return impl.Block{Kind: impl.BlockOutput, Name: name, Expr: expr(e)}
}

// thing has attributes of a name and an expression each, with a space between.
func thing(id string, attrs ...string) impl.Block {
	b := impl.Block{Kind: impl.BlockThing, Id: id}
	for _, a := range attrs {
		name, e, _ := strings.Cut(a, " ")
		b.Attrs = append(b.Attrs, impl.Attr{Name: name, Expr: expr(e)})
	}
	return b
}

func blocks(list ...impl.Block) []impl.Block { return list }

// lines is a text of lines, each with a newline behind it.
func lines(list ...string) string {
	if len(list) == 0 {
		return ""
	}
	return strings.Join(list, "\n") + "\n"
}

func sameAttr(a, b impl.Attr) bool {
	return a.Name == b.Name && sameExpr(a.Expr, b.Expr)
}

func sameBlock(a, b impl.Block) bool {
	return a.Kind == b.Kind && a.Name == b.Name && a.Id == b.Id && sameExpr(a.Expr, b.Expr) && slices.EqualFunc(a.Attrs, b.Attrs, sameAttr)
}

func sameBlocks(a, b []impl.Block) bool { return slices.EqualFunc(a, b, sameBlock) }

func fault(at, code int) impl.ConfFault { return impl.ConfFault{At: at, Code: code} }

// modelBlock writes a block by the document's table; false, if it is not what that says.
func modelBlock(b impl.Block) (string, bool) {
	kinds := []string{"", "input", "let", "thing", "output"}
	if b.Kind < 1 || b.Kind > 4 || len(b.Attrs) > 5 {
		return "", false
	}
	if b.Kind != 3 {
		ok := modelX(b.Name) && b.Id == "" && len(b.Attrs) == 0 && modelExprOk(b.Expr) && (b.Kind != 1 || b.Expr.Op == 1)
		return kinds[b.Kind] + " " + b.Name + " " + impl.ExprWrite(b.Expr) + "\n", ok
	}
	text, last := "thing "+b.Id+"\n", ""
	ok := idForm.MatchString(b.Id) && b.Name == "" && sameExpr(b.Expr, impl.Expr{}) && len(b.Attrs) <= 4
	for _, a := range b.Attrs {
		ok = ok && modelName(a.Name) && a.Name > last && !slices.Contains([]string{"id", "end", "if", "and", "not"}, a.Name) && modelExprOk(a.Expr)
		text, last = text+"  "+a.Name+" "+impl.ExprWrite(a.Expr)+"\n", a.Name
	}
	return text + "end\n", ok
}

// modelSaid is the first fault of what an expression says, in the order of its text; whether it has any.
func modelSaid(list []impl.Block, at int, e impl.Expr, within []string) int {
	switch e.Op {
	case impl.ExprName:
		for _, b := range list[:at] {
			if (b.Kind == 1 || b.Kind == 2) && b.Name == e.Text {
				return 0
			}
		}
		if slices.Contains(within, e.Text) {
			return 0
		}
		return 4
	case impl.ExprRef:
		i := slices.IndexFunc(list, func(b impl.Block) bool { return b.Kind == 3 && b.Id == e.Text })
		if i < 0 || list[at].Kind == 2 {
			return 4
		}
		for _, a := range list[i].Attrs {
			if a.Name == e.Name {
				return 0
			}
		}
		if e.Name == "id" {
			return 0
		}
		return 5
	}
	for i, kid := range e.Kids {
		inside := within
		if e.Op == impl.ExprEach && i == 1 {
			inside = append(slices.Clone(within), e.Text)
		}
		if code := modelSaid(list, at, kid, inside); code != 0 {
			return code
		}
	}
	return 0
}

// modelCheck says the document's words on ConfCheck.
func modelCheck(list []impl.Block) impl.ConfFault {
	if len(list) > 10 {
		return fault(11, 2)
	}
	size := 0
	for i, b := range list {
		text, ok := modelBlock(b)
		if !ok {
			return fault(i+1, 1)
		}
		size += len(text)
		for _, c := range list[:i] {
			things, outputs := b.Kind == 3 && c.Kind == 3, b.Kind == 4 && c.Kind == 4
			neither := b.Kind < 3 && c.Kind < 3
			if things && b.Id == c.Id || (outputs || neither) && b.Name == c.Name {
				return fault(i+1, 3)
			}
		}
	}
	for i, b := range list {
		for _, e := range modelExprs(b) {
			if code := modelSaid(list, i, e, nil); code != 0 {
				return fault(i+1, code)
			}
		}
	}
	if size > 1200 {
		return fault(0, 7)
	}
	if ring := modelRing(len(list), modelNeeds(list)); len(ring) > 0 {
		return fault(ring[0]+1, 6)
	}
	return fault(0, 0)
}

func modelExprs(b impl.Block) []impl.Expr {
	if b.Kind != 3 {
		return []impl.Expr{b.Expr}
	}
	var list []impl.Expr
	for _, a := range b.Attrs {
		list = append(list, a.Expr)
	}
	return list
}

// modelNeeds is which blocks' attributes ask of which others.
func modelNeeds(list []impl.Block) []impl.Need {
	var needs []impl.Need
	for i, b := range list {
		for _, a := range b.Attrs {
			for j, c := range list {
				if c.Kind == 3 && strings.Contains(impl.ExprWrite(a.Expr), "@"+c.Id+".") {
					needs = append(needs, impl.Need{Of: i, On: j})
				}
			}
		}
	}
	return needs
}

var (
	plainLine = regexp.MustCompile(`^(input|let|output) ([a-z][a-z0-9]{0,6}) (.*)$`)
	thingLine = regexp.MustCompile(`^thing ([a-z][a-z0-9]{0,6}\.[a-z][a-z0-9]{0,6})$`)
	attrLine  = regexp.MustCompile(`^  ([a-z][a-z0-9]{0,6}) (.*)$`)
)

// modelParse says the document's words on ConfParse, a line at a time.
func modelParse(text string) ([]impl.Block, impl.ConfFault) {
	if len(text) > 1200 {
		return nil, fault(0, 7)
	}
	var list []impl.Block
	var firsts []int
	open, n := false, 0
	for text != "" && strings.Contains(text, "\n") {
		line := text[:strings.Index(text, "\n")]
		text, n = text[len(line)+1:], n+1
		if open && line == "end" {
			open = false
			continue
		}
		if !open {
			list, firsts = append(list, impl.Block{}), append(firsts, n)
		}
		if !modelLine(&list[len(list)-1], line, open) {
			return nil, fault(n, 1)
		}
		open = list[len(list)-1].Kind == 3
	}
	if text != "" || open {
		return nil, fault(n+1, 1)
	}
	f := modelCheck(list)
	if f.Code == 0 {
		return list, f
	}
	if f.At > 0 {
		f.At = firsts[f.At-1]
	}
	return nil, f
}

func modelLine(b *impl.Block, line string, open bool) bool {
	if m := attrLine.FindStringSubmatch(line); open && m != nil {
		e, ok := impl.ExprParse(m[2])
		b.Attrs = append(b.Attrs, impl.Attr{Name: m[1], Expr: e})
		_, good := modelBlock(*b)
		return ok && good
	}
	if m := thingLine.FindStringSubmatch(line); !open && m != nil {
		*b = impl.Block{Kind: 3, Id: m[1]}
		return true
	}
	if m := plainLine.FindStringSubmatch(line); !open && m != nil {
		e, ok := impl.ExprParse(m[3])
		*b = impl.Block{Kind: map[string]int{"input": 1, "let": 2, "output": 4}[m[1]], Name: m[2], Expr: e}
		_, good := modelBlock(*b)
		return ok && good
	}
	return false
}

// anyLines is lines of a configuration made by chance, right about as often as not.
func anyLines(r *rand.Rand) []string {
	pick := func(list ...string) string { return list[r.Intn(len(list))] }
	plain := []string{"1", "n", "m", `"a b"`, "add n 1", "list 2 n m", "each x list 1 n add x m", "null", "each x n x"}
	asks := []string{"@vm.a.id", "@vm.b.size", "@net.c.id", "cat @net.c.id @vm.b.id", "cat @vm.a.size n", "each x list 1 @net.c.id cat x n"}
	var text []string
	for range r.Intn(5) {
		switch r.Intn(6) {
		case 0, 1:
			text = append(text, "input "+pick("n", "m", "p", "q")+" "+pick("1", `"a  b"`, "null"))
		case 2:
			text = append(text, "let "+pick("m", "k", "l")+" "+pick(plain...))
		case 3:
			text = append(text, "output "+pick("n", "o", "p")+" "+pick(append(asks, plain...)...))
		}
	}
	for _, id := range []string{"vm.a", "vm.b", "net.c", "vm.a"}[:r.Intn(4)+r.Intn(10)/9] {
		text = append(text, "thing "+id)
		for _, name := range []string{"link", "size", "zone"} {
			if r.Intn(3) > 0 {
				text = append(text, "  "+name+" "+pick(append(asks[:4:4], "1", `"eu west"`, "n")...))
			}
		}
		text = append(text, "end")
	}
	if r.Intn(3) == 0 {
		text = append(text, "output o"+strconv.Itoa(r.Intn(3))+" "+pick(asks...))
	}
	return text
}
