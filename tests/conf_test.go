package tests

import (
	"math/rand"
	"slices"
	"strconv"
	"strings"
	"testing"

	"loop.example/portreeve/impl"
)

// goodConfs is configurations without a fault, of each Kind and at each limit.
func goodConfs() [][]impl.Block {
	return [][]impl.Block{
		nil, blocks(input("n", "1")), blocks(input("n", "null"), input("m", `"a  b"`), input("k", "false")),
		blocks(let("m", "add 1 2")), blocks(input("n", "1"), let("m", "add n 1"), let("k", "add n m")),
		blocks(thing("vm.a")), blocks(thing("vm.a", "size 1")), blocks(thing("vm.a", "a 1", "b 2", "c 3", "d 4")), blocks(thing("if.not", "add 1", "null 2", "or 3", "true 4")),
		blocks(output("o", "1")), blocks(output("o", "@vm.a.id"), thing("vm.a")), blocks(output("o", "@vm.a.size"), thing("vm.a", "size 1")), blocks(thing("vm.a"), output("o", "cat @vm.a.id @vm.a.id")),
		blocks(input("n", "1"), output("n", "n")), blocks(let("n", "1"), output("n", "n")), blocks(thing("a.b"), thing("b.a"), thing("a.a")),
		blocks(thing("vm.a", "x @vm.b.id"), thing("vm.b", "x @vm.c.x"), thing("vm.c", "x 1")), blocks(thing("vm.a", "x @vm.b.id", "y @vm.b.x"), thing("vm.b", "x 1")),
		blocks(let("l", "list 2 1 2"), let("m", "each x l add x 1")), blocks(let("m", "each x list 0 each y list 1 x add x y")), blocks(input("x", "1"), let("m", "each x list 1 x x")),
		blocks(thing("vm.a", "z each x list 1 @vm.b.id cat x @vm.b.id"), thing("vm.b")), manyBlocks(10), longConf(1200),
	}
}

// manyBlocks is so many inputs.
func manyBlocks(n int) []impl.Block {
	var list []impl.Block
	for i := range n {
		list = append(list, input("n"+strconv.Itoa(i), "1"))
	}
	return list
}

// longConf has so many bytes when written, 1119 to 1221.
func longConf(size int) []impl.Block {
	rest := impl.Block{Kind: impl.BlockOutput, Name: "fill", Expr: long(size - 1061)}
	list := []impl.Block{rest}
	for i := range 8 {
		list = append(list, output("o"+strconv.Itoa(i), impl.ExprWrite(long(120))))
	}
	return list
}

func confText(list []impl.Block) string {
	text := ""
	for _, b := range list {
		lines, _ := modelBlock(b)
		text += lines
	}
	return text
}

// P9: ConfParse of ConfWrite is the configuration.
func TestConfWrittenIsRead(t *testing.T) {
	for _, list := range goodConfs() {
		text := impl.ConfWrite(list)
		if f := impl.ConfCheck(list); f != fault(0, 0) || modelCheck(list) != f || text != confText(list) {
			t.Errorf("%v in %q, which is written %q", f, confText(list), text)
		}
		if got, f := impl.ConfParse(text); f != fault(0, 0) || !sameBlocks(got, list) {
			t.Errorf("%q is read as %+v, %v", text, got, f)
		}
	}
	if n := len(confText(longConf(1200))); n != 1200 {
		t.Error("the test is wrong:", n)
	}
}

// P9: what is wrong with texts, and where.
func TestConfFaultsOfTexts(t *testing.T) {
	for _, c := range []struct {
		text     string
		at, code int
	}{
		{"", 0, 0}, {"\n", 1, 1}, {" ", 1, 1}, {" \n", 1, 1}, {"input n 1\n\n", 2, 1}, {"\ninput n 1\n", 1, 1}, {"input n 1\r\n", 1, 1}, {"what\n", 1, 1}, {"input\n", 1, 1}, {"input n\n", 1, 1}, {"input n \n", 1, 1}, {"input  n 1\n", 1, 1}, {"input n  1\n", 1, 1}, {"input n 1 \n", 1, 1}, {" input n 1\n", 1, 1}, {"inputn 1\n", 1, 1}, {"Input n 1\n", 1, 1}, {"input n 1;\n", 1, 1},
		{"input n n\n", 1, 1}, {"input n add 1 2\n", 1, 1}, {"input n list 0\n", 1, 1}, {"input n @vm.a.id\n", 1, 1}, {"input n ?\n", 1, 1}, {"input n []\n", 1, 1}, {"input N 1\n", 1, 1}, {"input if 1\n", 1, 1}, {"input null 1\n", 1, 1}, {"let add 1\n", 1, 1}, {"let add 1 2\n", 1, 1}, {"let each 1\n", 1, 1}, {"output size 1\n", 1, 1}, {"output true 1\n", 1, 1}, {"let abcdefg 1\n", 0, 0}, {"let abcdefgh 1\n", 1, 1}, {"let vm.a 1\n", 1, 1}, {"let id 1\n", 0, 0}, {"output end 1\n", 0, 0},
		{"thing\n", 1, 1}, {"thing \n", 1, 1}, {"thing vm\nend\n", 1, 1}, {"thing vm.a.b\nend\n", 1, 1}, {"thing vm.a \nend\n", 1, 1}, {"thing  vm.a\nend\n", 1, 1}, {"thing VM.a\nend\n", 1, 1}, {"thing vm.a 1\nend\n", 1, 1}, {"thing if.end\nend\n", 0, 0}, {"end\n", 1, 1}, {"thing vm.a\nend\nend\n", 3, 1},
		{"thing vm.a\n", 2, 1}, {"thing vm.a", 1, 1}, {"thing vm.a\nend", 2, 1}, {"thing vm.a\n  a 1\n", 3, 1}, {"thing vm.a\n  a 1", 2, 1}, {"thing vm.a\n  a 1\nend", 3, 1}, {"input n 1", 1, 1}, {"input n 1\nx", 2, 1}, {"input n 1\n ", 2, 1}, {"input n 1\nlet m 2", 2, 1}, {"thing vm.a\nend\n\n", 3, 1},
		{"thing vm.a\nthing vm.b\nend\n", 2, 1}, {"thing vm.a\ninput n 1\nend\n", 2, 1}, {"thing vm.a\n\nend\n", 2, 1}, {"thing vm.a\n end\n", 2, 1}, {"thing vm.a\nend \n", 2, 1}, {"thing vm.a\n  end\n", 2, 1}, {"thing vm.a\nEND\n", 2, 1},
		{"thing vm.a\na 1\nend\n", 2, 1}, {"thing vm.a\n a 1\nend\n", 2, 1}, {"thing vm.a\n   a 1\nend\n", 2, 1}, {"thing vm.a\n\ta 1\nend\n", 2, 1}, {"thing vm.a\n  a  1\nend\n", 2, 1}, {"thing vm.a\n  a 1 \nend\n", 2, 1}, {"thing vm.a\n  a\nend\n", 2, 1}, {"thing vm.a\n  a \nend\n", 2, 1}, {"thing vm.a\n  A 1\nend\n", 2, 1}, {"thing vm.a\n  abcdefg 1\nend\n", 0, 0}, {"thing vm.a\n  abcdefgh 1\nend\n", 2, 1}, {"thing vm.a\n  a add 1\nend\n", 2, 1}, {"thing vm.a\n  a [1]\nend\n", 2, 1},
		{"thing vm.a\n  id 1\nend\n", 2, 1}, {"thing vm.a\n  end 1\nend\n", 2, 1}, {"thing vm.a\n  if 1\nend\n", 2, 1}, {"thing vm.a\n  and 1\nend\n", 2, 1}, {"thing vm.a\n  not 1\nend\n", 2, 1}, {"thing vm.a\n  add 1\n  each 1\n  null 1\n  or 1\nend\n", 0, 0},
		{"thing vm.a\n  b 1\n  a 1\nend\n", 3, 1}, {"thing vm.a\n  a 1\n  a 1\nend\n", 3, 1}, {"thing vm.a\n  a 1\n  c 1\n  b 1\nend\n", 4, 1}, {"thing vm.a\n  a0 1\n  a 1\nend\n", 3, 1}, {"thing vm.a\n  a 1\n  b 1\n  c 1\n  d 1\nend\n", 0, 0}, {"thing vm.a\n  a 1\n  b 1\n  c 1\n  d 1\n  e 1\nend\n", 6, 1},
		{"input n 1\nlet n 2\n", 2, 3}, {"input n 1\ninput n 1\n", 2, 3}, {"let n 1\ninput n 2\n", 2, 3}, {"let n 1\nlet n 2\n", 2, 3}, {"output n 1\noutput n 2\n", 2, 3}, {"input n 1\noutput n 2\nlet n 1\n", 3, 3}, {"output n 1\ninput n 2\n", 0, 0}, {"thing vm.a\nend\nthing vm.a\nend\n", 3, 3}, {"thing vm.a\n  a 1\n  b 1\nend\nthing vm.a\nend\n", 5, 3}, {"thing vm.a\nend\nthing a.vm\nend\n", 0, 0},
		{"let m n\n", 1, 4}, {"let m m\n", 1, 4}, {"let m n\ninput n 1\n", 1, 4}, {"output o p\noutput p 1\n", 1, 4}, {"output p 1\noutput o p\n", 2, 4}, {"input n 1\nthing vm.a\n  a 1\n  b m\nend\n", 2, 4}, {"thing vm.a\n  a n\nend\ninput n 1\n", 1, 4}, {"output o vm\nthing vm.a\nend\n", 1, 4}, {"thing vm.a\n  a 1\n  b a\nend\n", 1, 4},
		{"let m each x list 1 1 x\n", 0, 0}, {"let m each x x x\n", 1, 4}, {"let m add each x list 0 x x\n", 1, 4}, {"let m each x list 0 each y x y\n", 0, 0}, {"let m each x list 0 each y y y\n", 1, 4}, {"let m each x list 0 each x x x\n", 0, 0}, {"let m each x each y list 0 y y\n", 1, 4}, {"let m list 2 each x list 0 x x\n", 1, 4}, {"let x 1\nlet m each x x x\n", 0, 0}, {"let m each x list 0 1\nlet k x\n", 2, 4},
		{"let m @vm.a.id\nthing vm.a\nend\n", 1, 4}, {"thing vm.a\nend\nlet m @vm.a.id\n", 3, 4}, {"thing vm.a\nend\nlet m @vm.a.nope\n", 3, 4}, {"let m @vm.b.id\n", 1, 4}, {"output o @vm.a.id\n", 1, 4}, {"thing vm.a\n  a @vm.b.id\nend\n", 1, 4}, {"thing vm.a\nend\noutput o @vm.b.id\n", 3, 4}, {"thing vm.a\nend\noutput o each x list 1 @vm.a.id cat x @vm.a.id\n", 0, 0},
		{"thing vm.a\nend\noutput o @vm.a.size\n", 3, 5}, {"output o @vm.a.size\nthing vm.a\nend\n", 1, 5}, {"thing vm.a\n  a @vm.a.b\nend\n", 1, 5}, {"thing vm.a\n  a 1\nend\nthing vm.b\n  a @vm.a.a\n  b @vm.a.b\nend\n", 4, 5}, {"thing vm.a\n  a 1\nend\noutput o @vm.a.id\noutput p @vm.a.a\n", 0, 0}, {"thing vm.a\nend\nthing vm.b\n  a 1\nend\noutput o @vm.a.a\n", 6, 5},
		{"thing vm.a\n  x @vm.a.id\nend\n", 1, 6}, {"thing vm.a\n  x @vm.a.x\nend\n", 1, 6}, {"thing vm.a\n  x @vm.b.id\nend\nthing vm.b\n  x @vm.a.id\nend\n", 1, 6}, {"input n 1\nthing vm.a\nend\nthing vm.b\n  x @vm.c.id\nend\nthing vm.c\n  x @vm.b.id\nend\n", 4, 6},
		{"thing vm.a\n  x @vm.b.id\nend\nthing vm.b\n  x @vm.b.id\nend\n", 4, 6}, {"thing vm.a\n  x @vm.c.id\nend\nthing vm.b\n  x @vm.b.id\nend\nthing vm.c\n  x @vm.c.id\nend\n", 7, 6}, {"thing vm.a\n  x @vm.a.id\nend\nthing vm.b\n  x @vm.b.id\nend\n", 1, 6}, {"output o @vm.a.id\nthing vm.a\n  x 1\n  y @vm.a.id\nend\n", 2, 6}, {"thing vm.a\n  x each y list 0 @vm.a.id\nend\n", 1, 6},
	} {
		list, f := impl.ConfParse(c.text)
		if f != fault(c.at, c.code) || c.code == 0 && impl.ConfWrite(list) != c.text || c.code != 0 && list != nil {
			t.Errorf("%q: %v, not %v", c.text, f, fault(c.at, c.code))
		}
		if _, want := modelParse(c.text); want != f {
			t.Errorf("%q: the test is wrong: %v", c.text, want)
		}
	}
}

// P9: where two things are wrong, the document says which comes first.
func TestConfFirstFaults(t *testing.T) {
	over := lines("input n 1", "let m q") + strings.Repeat("output o 1\n", 110)
	many := confText(manyBlocks(11))
	for _, c := range []struct {
		what, text string
		at, code   int
	}{
		{"too long, ahead of a bad line", "what\n" + over, 0, 7}, {"a bad line, ahead of too many", many + "what\n", 12, 1}, {"a bad line, ahead of one twice", "input n 1\ninput n 1\nwhat\n", 3, 1}, {"an end that is missing, ahead of one twice", "input n 1\ninput n 1\nthing vm.a\n", 4, 1}, {"something at the end, ahead of an unknown", "output o q\nx", 2, 1},
		{"two bad lines", "input n 1\nwhat\nwhy\n", 2, 1}, {"too many, ahead of one twice", "input n1 1\n" + many, 11, 2}, {"too many, ahead of an unknown", "let x q\n" + many, 11, 2}, {"too many, of more lines", "thing vm.a\n  a 1\nend\n" + many, 13, 2}, {"too many by far", strings.Repeat(many, 3), 11, 2},
		{"one twice, ahead of an unknown that is ahead of it", "let m q\ninput n 1\ninput n 1\n", 3, 3}, {"one twice, ahead of a ring", "thing vm.a\n  x @vm.a.id\nend\nthing vm.a\nend\n", 4, 3}, {"the first that is there twice", "input n 1\noutput o 1\noutput o 1\ninput n 1\n", 3, 3},
		{"an attribute that is missing, ahead of an unknown block", "thing vm.a\nend\noutput o @vm.a.x\noutput p q\n", 3, 5}, {"an unknown block, ahead of an attribute", "thing vm.a\nend\noutput p q\noutput o @vm.a.x\n", 3, 4}, {"from the left: an attribute", "thing vm.a\nend\noutput p cat @vm.a.x q\n", 3, 5}, {"from the left: an unknown", "thing vm.a\nend\noutput p cat q @vm.a.x\n", 3, 4}, {"from the left: a thing that is not there", "thing vm.a\nend\noutput p cat @vm.b.x @vm.a.x\n", 3, 4},
		{"attributes in order: unknown", "thing vm.a\n  a q\n  b @vm.a.x\nend\n", 1, 4}, {"attributes in order: none", "thing vm.a\n  a @vm.a.x\n  b q\nend\n", 1, 5}, {"a ref in a let, ahead of its attribute", "thing vm.a\nend\nlet m cat @vm.a.x q\n", 3, 4},
		{"an unknown, ahead of a ring", "thing vm.a\n  x @vm.a.id\nend\noutput o q\n", 4, 4}, {"an attribute, ahead of a ring", "thing vm.a\n  x @vm.a.id\nend\noutput o @vm.a.q\n", 4, 5},
	} {
		if list, f := impl.ConfParse(c.text); f != fault(c.at, c.code) || list != nil {
			t.Errorf("%s: %v, not %v", c.what, f, fault(c.at, c.code))
		}
	}
}

// Faults of blocks: by their places instead of lines, and those that no text can have.
func TestConfFaultsOfBlocks(t *testing.T) {
	bad := append([]impl.Block{}, strayBlocks()...)
	for i, b := range bad {
		if _, ok := modelBlock(b); ok {
			t.Errorf("the test is wrong: %d", i)
		}
		checkFault(t, "a stray part "+strconv.Itoa(i), blocks(b), 1, 1)
		checkFault(t, "a stray part "+strconv.Itoa(i), blocks(input("first", "1"), b, b), 2, 1)
	}
	ring := blocks(thing("vm.a", "x @vm.a.id"))
	long := append(longConf(1201), ring...)
	checkFault(t, "11 blocks", manyBlocks(11), 11, 2)
	checkFault(t, "12 blocks", manyBlocks(12), 11, 2)
	checkFault(t, "11 bad blocks", make([]impl.Block, 11), 11, 2)
	checkFault(t, "very many", make([]impl.Block, 1<<20), 11, 2)
	checkFault(t, "twice ahead of bad", blocks(let("n", "1"), let("n", "1"), impl.Block{}), 2, 3)
	checkFault(t, "bad ahead of twice", blocks(let("n", "1"), impl.Block{}, let("n", "1")), 2, 1)
	checkFault(t, "bad ahead of unknown", blocks(let("n", "q"), impl.Block{}), 2, 1)
	checkFault(t, "twice ahead of unknown", blocks(let("n", "q"), let("n", "1")), 2, 3)
	checkFault(t, "things twice", blocks(thing("vm.a"), output("o", "1"), thing("vm.a")), 3, 3)
	checkFault(t, "unknown", blocks(input("n", "1"), output("o", "m")), 2, 4)
	checkFault(t, "no attribute", blocks(thing("vm.a", "a 1"), output("o", "@vm.a.b")), 2, 5)
	checkFault(t, "1201 bytes", longConf(1201), 0, 7)
	checkFault(t, "1202 bytes", longConf(1202), 0, 7)
	checkFault(t, "too long ahead of a ring", long, 0, 7)
	checkFault(t, "unknown ahead of too long", append(longConf(1201), output("o", "q")), 10, 4)
	checkFault(t, "a ring of one", append(blocks(let("n", "1")), ring...), 2, 6)
	checkFault(t, "a ring of two", blocks(thing("vm.b"), thing("vm.a", "x @vm.c.id"), thing("vm.c", "x @vm.a.x")), 2, 6)
	checkFault(t, "two rings", blocks(thing("vm.c", "x @vm.d.id"), thing("vm.b", "x @vm.b.id"), thing("vm.d", "x @vm.d.x")), 3, 6)
}

func checkFault(t *testing.T, what string, list []impl.Block, at, code int) {
	t.Helper()
	if f := impl.ConfCheck(list); f != fault(at, code) {
		t.Errorf("%s: %v, not %v", what, f, fault(at, code))
	}
	if text := impl.ConfWrite(list); text != "" {
		t.Errorf("%s: it is written %q", what, text)
	}
	for _, b := range list[:min(len(list), 11)] {
		if needs := impl.ConfNeeds(list, b.Id); len(needs) > 0 {
			t.Errorf("%s: %s needs %v", what, b.Id, needs)
		}
	}
}

// strayBlocks is blocks that have not just what the table says.
func strayBlocks() []impl.Block {
	attr := impl.Attr{Name: "a", Expr: one()}
	stray := []impl.Block{
		{}, {Kind: -1, Name: "n", Expr: one()}, {Kind: 5, Name: "n", Expr: one()}, {Kind: 1 << 40}, {Kind: 0, Id: "vm.a"},
		{Kind: 1, Name: "n", Expr: named("m")}, {Kind: 1, Name: "n", Expr: op(impl.ExprList)}, {Kind: 1, Name: "n", Expr: literal(unknown())}, {Kind: 1, Name: "n", Expr: literal(list(null()))},
		{Kind: 3}, {Kind: 3, Id: "vm"}, {Kind: 3, Id: "vm.a.b"}, {Kind: 3, Id: "vm.A"}, {Kind: 3, Id: strings.Repeat("a", 1<<20)}, {Kind: 3, Name: "vm.a"}, {Kind: 3, Id: "vm.a", Name: "n"}, {Kind: 3, Id: "vm.a", Expr: one()}, {Kind: 3, Id: "vm.a", Expr: impl.Expr{Text: "x"}}, {Kind: 3, Id: "vm.a", Expr: impl.Expr{Name: "x"}}, {Kind: 3, Id: "vm.a", Expr: impl.Expr{Kids: []impl.Expr{one()}}}, {Kind: 3, Id: "vm.a", Expr: impl.Expr{Value: number(0)}},
		thing("vm.a", "b 1", "a 1"), thing("vm.a", "a 1", "a 1"), thing("vm.a", "a 1", "b 1", "c 1", "d 1", "e 1"), {Kind: 3, Id: "vm.a", Attrs: make([]impl.Attr, 1<<20)}, {Kind: 3, Id: "vm.a", Attrs: []impl.Attr{{}}}, {Kind: 3, Id: "vm.a", Attrs: []impl.Attr{{Name: "a"}}}, {Kind: 3, Id: "vm.a", Attrs: []impl.Attr{{Expr: one()}}}, {Kind: 3, Id: "vm.a", Attrs: []impl.Attr{attr, {Name: "b", Expr: deep(6)}}},
	}
	for _, kind := range []int{1, 2, 4} {
		good := impl.Block{Kind: kind, Name: "n", Expr: one()}
		for _, spoil := range []func(b *impl.Block){
			func(b *impl.Block) { b.Name = "" }, func(b *impl.Block) { b.Name = "N" }, func(b *impl.Block) { b.Name = "abcdefgh" }, func(b *impl.Block) { b.Name = "vm.a" }, func(b *impl.Block) { b.Name = "null" }, func(b *impl.Block) { b.Name = "list" },
			func(b *impl.Block) { b.Id = "vm.a" }, func(b *impl.Block) { b.Attrs = []impl.Attr{attr} }, func(b *impl.Block) { b.Attrs = []impl.Attr{{}} }, func(b *impl.Block) { b.Expr = impl.Expr{} }, func(b *impl.Block) { b.Expr = literal(list()) }, func(b *impl.Block) { b.Expr.Text = "x" }, func(b *impl.Block) { b.Expr = literal(words("\n")) },
		} {
			b := good
			spoil(&b)
			stray = append(stray, b)
		}
	}
	for _, name := range []string{"", "id", "end", "if", "and", "not", "A", "0", "a b", "abcdefgh", "a\n"} {
		stray = append(stray, impl.Block{Kind: 3, Id: "vm.a", Attrs: []impl.Attr{{Name: name, Expr: one()}}})
	}
	return stray
}

// Blocks whose expressions hold themselves are bad ones, and end.
func TestConfEndless(t *testing.T) {
	for _, e := range endlessExprs() {
		checkFault(t, "a let", blocks(impl.Block{Kind: impl.BlockLet, Name: "n", Expr: e}), 1, 1)
		checkFault(t, "an attribute", blocks(impl.Block{Kind: impl.BlockThing, Id: "vm.a", Attrs: []impl.Attr{{Name: "a", Expr: e}}}), 1, 1)
		checkFault(t, "a thing", blocks(impl.Block{Kind: impl.BlockThing, Id: "vm.a", Expr: e}), 1, 1)
	}
}

// P9: at 1200 bytes, and one beyond them.
func TestConfLongTexts(t *testing.T) {
	if list, f := impl.ConfParse(confText(longConf(1200))); f != fault(0, 0) || !sameBlocks(list, longConf(1200)) {
		t.Error("1200 bytes:", f)
	}
	for _, text := range []string{confText(longConf(1201)), strings.Repeat("x", 1201), strings.Repeat("\n", 1<<20)} {
		if list, f := impl.ConfParse(text); f != fault(0, 7) || list != nil {
			t.Errorf("%d bytes: %v", len(text), f)
		}
	}
	if _, f := impl.ConfParse(strings.Repeat("x", 1200)); f != fault(1, 1) {
		t.Error("1200 bytes that are none:", f)
	}
}

// P9 and P10, over texts made by chance and spoilt, held against the model.
func TestConfModel(t *testing.T) {
	r := rand.New(rand.NewSource(10))
	codes := map[int]int{}
	for range 30000 {
		text := lines(spoilLines(r, anyLines(r))...)
		if r.Intn(20) == 0 {
			text = text[:r.Intn(len(text)+1)]
		}
		want, wantFault := modelParse(text)
		list, f := impl.ConfParse(text)
		if f != wantFault || !sameBlocks(list, want) || f.Code == 0 && impl.ConfWrite(list) != text || f.Code != 0 && list != nil {
			t.Fatalf("%q: %v, not %v", text, f, wantFault)
		}
		codes[f.Code]++
		checkNeeds(t, list)
	}
	for _, code := range []int{0, 1, 3, 4, 5, 6} {
		if codes[code] < 100 {
			t.Errorf("the test is wrong: %v", codes)
		}
	}
}

func spoilLines(r *rand.Rand, text []string) []string {
	if len(text) == 0 || r.Intn(3) > 0 {
		return text
	}
	at := r.Intn(len(text))
	switch r.Intn(4) {
	case 0:
		return slices.Delete(text, at, at+1)
	case 1:
		return slices.Insert(text, at, text[r.Intn(len(text))])
	case 2:
		text[at] += []string{" ", " 1", "x", "\n"}[r.Intn(4)]
	case 3:
		text[at] = []string{"", " ", "end", "  id 1", "  a 1", "thing vm.d", "what"}[r.Intn(7)]
	}
	return text
}

// checkNeeds is P10: of what a thing needs none is it, nor needs it.
func checkNeeds(t *testing.T, list []impl.Block) {
	t.Helper()
	for _, b := range list {
		var want []string
		for _, c := range list {
			for _, e := range modelExprs(b) {
				if b.Kind == impl.BlockThing && c.Kind == impl.BlockThing && strings.Contains(impl.ExprWrite(e)+".", "@"+c.Id+".") {
					want = append(want, c.Id)
				}
			}
		}
		slices.Sort(want)
		needs := impl.ConfNeeds(list, b.Id)
		if !slices.Equal(needs, slices.Compact(want)) || slices.Contains(needs, b.Id) {
			t.Fatalf("%q: %s needs %v, not %v", confText(list), b.Id, needs, want)
		}
		for _, id := range needs {
			if slices.Contains(impl.ConfNeeds(list, id), b.Id) {
				t.Fatalf("%q: %s and %s need each other", confText(list), id, b.Id)
			}
		}
	}
}

// P10: what things need, by hand.
func TestConfNeeds(t *testing.T) {
	list := blocks(let("n", "1"), thing("vm.a", "a cat @vm.c.id @net.b.id", "b @vm.c.a"), thing("net.b", "a n"), thing("vm.c", "a each x list 1 @net.b.a add x @net.b.a"), output("vm", "@vm.a.id"))
	for _, c := range []struct{ id, want string }{
		{"vm.a", "net.b vm.c"}, {"vm.c", "net.b"}, {"net.b", ""}, {"vm.z", ""}, {"", ""}, {"n", ""}, {"vm", ""}, {"@vm.a", ""},
	} {
		if got := strings.Join(impl.ConfNeeds(list, c.id), " "); got != c.want {
			t.Errorf("%s needs %q", c.id, got)
		}
	}
	for what, wrong := range map[string]impl.Block{"unknown": output("o", "q"), "twice": thing("vm.a"), "bad": {}, "a ring": thing("vm.d", "x @vm.d.id")} {
		if got := impl.ConfNeeds(append(slices.Clone(list), wrong), "vm.a"); len(got) != 0 {
			t.Errorf("%s: vm.a needs %v", what, got)
		}
	}
	if len(impl.ConfNeeds(nil, "vm.a")) != 0 {
		t.Error("nothing needs something")
	}
	ringed := blocks(thing("vm.a", "x @vm.b.id"), thing("vm.b", "x @vm.c.id"), thing("vm.c", "x @vm.a.id"))
	if len(impl.ConfNeeds(ringed, "vm.a")) != 0 {
		t.Error("one in a ring needs something")
	}
}

// Answers are new memory, and arguments stay as they are.
func TestConfMemory(t *testing.T) {
	text := lines("thing vm.a", "  a 1", "  b 2", "  c 3", "end", "thing vm.b", "  a @vm.a.id", "end", "output o list 2 @vm.a.id @vm.b.id")
	first, _ := impl.ConfParse(text)
	other, _ := impl.ConfParse(text)
	first[0].Attrs = append(first[0].Attrs, impl.Attr{Name: "d", Expr: one()})
	first[0].Attrs[0].Name = "x"
	first[2].Expr.Kids[0] = one()
	first = append(first[:2], impl.Block{})
	if impl.ConfWrite(other) != text || len(first) != 3 {
		t.Error("two answers share memory")
	}
	whole := append(slices.Clip(other), output("behind", "1"))
	list := whole[:3]
	list[1].Attrs = append(make([]impl.Attr, 0, 4), list[1].Attrs...)
	impl.ConfCheck(list)
	needs := impl.ConfNeeds(list, "vm.b")
	needs[0] = "x"
	if impl.ConfWrite(list) != text || whole[3].Name != "behind" || list[1].Attrs[:2][1].Name != "" || impl.ConfNeeds(list, "vm.b")[0] != "vm.a" {
		t.Error("an argument is changed")
	}
}

// No text of an answer lies within one of an argument.
func TestConfTextMemory(t *testing.T) {
	text := lines("input n 1", "let m n", "thing vm.a", "  a m", "  b @vm.b.id", "end", "thing vm.b", "end", "output o @vm.a.id")
	list, _ := impl.ConfParse(text)
	for _, b := range list {
		parts := append(texts(b.Expr), b.Name, b.Id)
		for _, a := range b.Attrs {
			parts = append(append(parts, a.Name), texts(a.Expr)...)
		}
		for _, part := range parts {
			if shares(part, text) {
				t.Errorf("%s lies within what was read", part)
			}
		}
	}
	for _, id := range impl.ConfNeeds(list, "vm.a") {
		if shares(id, list[2].Attrs[1].Expr.Text) {
			t.Errorf("%s lies within the configuration", id)
		}
	}
}
