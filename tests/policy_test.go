package tests

import (
	"math/rand"
	"slices"
	"strings"
	"testing"

	"loop.example/portreeve/impl"
)

const (
	const16 = "a.b-0123456789.z"
	var7    = "Vwx0123"
)

// goodRules is rules that are ok, each by itself.
func goodRules() []impl.Rule {
	return rules(
		rule("a"), rule("a b"), rule("p a b c"), rule("name123 a"), rule("p - . 0"),
		rule("p "+const16), rule("p ..- a-b 1.2.3"), rule("p iff ands nota"), rule("iff"), rule("and1"), rule("deny x y z"),
		rule("p X", "q X"), rule("p", "!q"), rule("p X", "q X", "!r X"), rule("p X", "!r X", "q X"), rule("p", "!q a b c"),
		rule("p "+var7, "q "+var7), rule("p X X X", "q X Y Z"), rule("p a", "q X"), rule("p X", "act K X", "attr X a b"),
		rule("p X Y Z", "a X", "b Y", "c Z", "!d X Y Z"), rule("p", "!a", "!b", "!c", "!d"), rule("p", "a", "a", "a", "a"),
		rule("p X", "p X"), rule("p X", "q X if1"), rule("p X Y", "q X Y", "!q Y X"),
	)
}

// P26, of each rule by itself and of all that can stand together.
func TestPolText(t *testing.T) {
	lists := [][]impl.Rule{nil, {}, slices.Repeat(goodRules()[:1], 10)}
	for i, r := range goodRules() {
		lists = append(lists, rules(r), goodRules()[i/10*10:i+1])
	}
	for _, list := range lists {
		if f := impl.PolCheck(list); f != polFault(0, 0) {
			t.Errorf("%v: %v", list, f)
		}
		text := impl.PolWrite(list)
		if text != ruleLines(list) {
			t.Errorf("%v is written %q", list, text)
		}
		if got, f := impl.PolParse(text); f.Code != 0 || !sameRules(got, list) {
			t.Errorf("%q is read as %v, %v", text, got, f)
		}
	}
}

func TestPolRuleOf(t *testing.T) {
	got, f := impl.PolParse("deny X vm.a if act K X and not ok X and p\nstop\n")
	want := rules(
		impl.Rule{Head: impl.Atom{Name: "deny", Args: []string{"X", "vm.a"}}, Body: []impl.Lit{
			{Atom: impl.Atom{Name: "act", Args: []string{"K", "X"}}}, {Not: true, Atom: impl.Atom{Name: "ok", Args: []string{"X"}}}, {Atom: impl.Atom{Name: "p"}},
		}},
		impl.Rule{Head: impl.Atom{Name: "stop"}},
	)
	if f != polFault(0, 0) || !sameRules(got, want) {
		t.Error(got, f)
	}
}

// P26: no other text is read.
func TestPolNoText(t *testing.T) {
	for _, line := range []string{
		"", " ", "a ", " a", "a  b", "a if", "a if ", " if a", "if", "and", "not", "not a", "if a", "a if if", "a if if b", "a if b if c", "a and b", "a if and b", "a if b and", "a if b and ", "a if b  and c", "a if b and and c", "a if  b",
		"a if not", "a if not ", "a if not not b", "a if not  b", "a not b", "a if b not c", "a if", "a b if and", "p if", "p and", "p not", "p X if q X if", "a if b and not", "a if b\tand c", "a\r", "a\x00",
		"A", "1a", "a.b", "a-b", "abcdefgh", "p " + const16 + "a", "p " + var7 + "4", "p aB", "p AB", "p A.b", "p A-", "p _", "p é", "p a b c d", "a if p a b c d", "a if not p a b c d",
		"p if a and b and c and d and e", "p if not a and not b and not c and not d and not e", "p X if q X and abcdefgh", "p if q " + const16 + "a", "p if not q if", "p if q and1 and and", "p,q", "p(a)", "p. ",
	} {
		for _, c := range []struct {
			text string
			at   int
		}{{line + "\n", 1}, {"p a\n" + line + "\n", 2}, {"p a\nq b\n" + line + "\nr\n", 3}, {line + "\nif\n", 1}, {"deny X\n" + line + "\n", 2}} {
			if got, f := impl.PolParse(c.text); got != nil || f != polFault(c.at, 1) {
				t.Errorf("%q is read as %v, %v", c.text, got, f)
			}
		}
	}
	for _, c := range []struct {
		text string
		f    impl.PolFault
	}{
		{"a", polFault(1, 1)}, {"a\nb", polFault(2, 1)}, {"a\n ", polFault(2, 1)}, {"a\n\n", polFault(2, 1)}, {"\na\n", polFault(1, 1)}, {"a\n\nb", polFault(2, 1)}, {"if\na", polFault(1, 1)}, {"deny X\na", polFault(2, 1)}, {"\n", polFault(1, 1)}, {"a\r\n", polFault(1, 1)},
		{strings.Repeat("a\n", 10) + "a", polFault(11, 1)}, {strings.Repeat("a\n", 11) + "if\n", polFault(12, 1)}, {strings.Repeat("a\n", 12), polFault(11, 2)}, {strings.Repeat("a\n", 450), polFault(11, 2)},
	} {
		if got, f := impl.PolParse(c.text); got != nil || f != c.f {
			t.Errorf("%q is read as %v, %v", c.text, got, f)
		}
	}
}

// longRules is ten rules that are written in so many bytes, from 830 to 980.
func longRules(size int) []impl.Rule {
	var list []impl.Rule
	for range 10 {
		list = append(list, rule("p "+const16+" "+const16+" "+const16, "q "+const16, "r a"))
	}
	for i := range list {
		list[i].Body[1].Atom.Args[0] += strings.Repeat("a", min(15, size-len(ruleLines(list))))
	}
	return list
}

func TestPolTooLong(t *testing.T) {
	for size, code := range map[int]int{899: 0, 900: 0, 901: 6, 902: 6} {
		list := longRules(size)
		text := ruleLines(list)
		if len(text) != size {
			t.Fatal("the test is wrong:", len(text))
		}
		got, f := impl.PolParse(text)
		if impl.PolCheck(list) != polFault(0, code) || f != polFault(0, code) || (impl.PolWrite(list) == text) != (code == 0) || sameRules(got, list) != (code == 0) {
			t.Errorf("%d bytes: %v, %v, %d rules", size, impl.PolCheck(list), f, len(got))
		}
		if _, ok := impl.PolRun(list, nil); ok != (code == 0) {
			t.Errorf("%d bytes: PolRun %v", size, ok)
		}
		if code != 0 && (impl.PolWrite(list) != "" || got != nil) {
			t.Errorf("%d bytes: %q, %v", size, impl.PolWrite(list), got)
		}
	}
	for _, text := range []string{strings.Repeat("\n", 901), strings.Repeat("a", 901), strings.Repeat("a\n", 451), "if\n" + strings.Repeat("a\n", 450)} {
		if got, f := impl.PolParse(text); got != nil || f != polFault(0, 6) {
			t.Errorf("%d bytes: %v, %v", len(text), got, f)
		}
	}
	if _, f := impl.PolParse(strings.Repeat("\n", 900)); f != polFault(1, 1) {
		t.Error("900 empty lines:", f)
	}
}

// The codes of PolCheck, and which of two comes first.
func TestPolCodes(t *testing.T) {
	long := longRules(901)
	wide := slices.Repeat(rules(rule("p "+const16+" "+const16+" "+const16, "q "+const16+" "+const16+" "+const16, "q "+const16+" "+const16+" "+const16)), 7)
	for i, c := range []struct {
		list []impl.Rule
		f    impl.PolFault
	}{
		// One rule that cannot be written.
		{rules(rule("if")), polFault(1, 1)}, {rules(rule("and a")), polFault(1, 1)}, {rules(rule("not")), polFault(1, 1)}, {rules(rule("p if")), polFault(1, 1)}, {rules(rule("p a and")), polFault(1, 1)}, {rules(rule("p a b not")), polFault(1, 1)},
		{rules(rule("")), polFault(1, 1)}, {rules(rule("Abc")), polFault(1, 1)}, {rules(rule("abcdefgh")), polFault(1, 1)}, {rules(rule("p a b c d")), polFault(1, 1)}, {rules(rule("p ")), polFault(1, 1)}, {rules(impl.Rule{Head: impl.Atom{Name: "p q"}}), polFault(1, 1)}, {rules(impl.Rule{Head: impl.Atom{Name: "p", Args: []string{"a b"}}}), polFault(1, 1)},
		{rules(rule("p", "if")), polFault(1, 1)}, {rules(rule("p", "!and")), polFault(1, 1)}, {rules(rule("p", "q not")), polFault(1, 1)}, {rules(rule("p", "q a b c d")), polFault(1, 1)}, {rules(rule("p", "a", "b", "c", "d", "e")), polFault(1, 1)}, {rules(rule("p", "q "+const16+"z")), polFault(1, 1)}, {rules(rule("p", "q "+var7+"z")), polFault(1, 1)}, {rules(impl.Rule{}), polFault(1, 1)},
		// Heads that are given.
		{rules(rule("act")), polFault(1, 5)}, {rules(rule("attr a")), polFault(1, 5)}, {rules(rule("act create a", "p")), polFault(1, 5)}, {rules(rule("attr X Y Z", "attr X Y Z")), polFault(1, 5)}, {rules(rule("acts")), polFault(0, 0)},
		// Variables that nothing can be put for.
		{rules(rule("p X")), polFault(1, 3)}, {rules(rule("p X", "q Y")), polFault(1, 3)}, {rules(rule("p X Y", "q X")), polFault(1, 3)}, {rules(rule("p X", "!q X")), polFault(1, 3)}, {rules(rule("p", "!q X")), polFault(1, 3)}, {rules(rule("p X", "q X", "!r Y")), polFault(1, 3)}, {rules(rule("p X", "q X", "!r X Y", "!s Y")), polFault(1, 3)}, {rules(rule("p a", "q b", "!r X")), polFault(1, 3)}, {rules(rule("p X", "q a", "q x")), polFault(1, 3)},
		{rules(rule("p X", "!r X", "q X")), polFault(0, 0)}, {rules(rule("p", "!r Y", "!r X", "q X Y")), polFault(0, 0)}, {rules(rule("p a", "!q b")), polFault(0, 0)}, {rules(rule("p", "q X Y")), polFault(0, 0)},
		// Two in one rule.
		{rules(rule("act X if")), polFault(1, 1)}, {rules(rule("act X")), polFault(1, 5)}, {rules(rule("attr X", "!q X")), polFault(1, 5)}, {rules(rule("p X", "if")), polFault(1, 1)}, {rules(rule("act", "a", "a", "a", "a", "!a X")), polFault(1, 1)}, {rules(rule("act", "!act")), polFault(1, 5)},
		// Two in two rules.
		{rules(rule("p X"), rule("if")), polFault(1, 3)}, {rules(rule("act"), rule("if")), polFault(1, 5)}, {rules(rule("p X"), rule("act")), polFault(1, 3)}, {rules(rule("act"), rule("p X")), polFault(1, 5)}, {rules(rule("a"), rule("if"), rule("p X")), polFault(2, 1)}, {rules(rule("a"), rule("b"), rule("p X")), polFault(3, 3)},
		// Too many, ahead of all.
		{slices.Repeat(rules(rule("if")), 11), polFault(11, 2)}, {slices.Repeat(rules(rule("p", "!p")), 50), polFault(11, 2)}, {append(long[:10:10], rule("a")), polFault(11, 2)}, {append(slices.Repeat(rules(rule("a")), 9), rule("p X")), polFault(10, 3)},
		// No levels, and too long, behind all rules.
		{rules(rule("p", "!p"), rule("if")), polFault(2, 1)}, {rules(rule("p", "!p"), rule("act")), polFault(2, 5)}, {rules(rule("p", "!p"), rule("q X")), polFault(2, 3)}, {long, polFault(0, 6)}, {wide, polFault(0, 6)}, {append(wide[:7:7], rule("p X")), polFault(8, 3)}, {append(wide[:7:7], rule("act")), polFault(8, 5)}, {append(wide[:7:7], rule("if")), polFault(8, 1)},
		{append(wide[:7:7], rule("odd", "!odd")), polFault(0, 4)}, {append(wide[:7:7], rule("q a", "!p a")), polFault(0, 4)}, {append(wide[:7:7], rule("q a", "p a")), polFault(0, 6)},
	} {
		if f := impl.PolCheck(c.list); f != c.f {
			t.Errorf("case %d: %v: %v, not %v", i, c.list, f, c.f)
		}
		if f := modelPolCheck(c.list); f != c.f {
			t.Errorf("case %d: the model is wrong: %v", i, f)
		}
		if text := impl.PolWrite(c.list); c.f.Code != 0 && text != "" || c.f.Code == 0 && text == "" {
			t.Errorf("case %d is written %q", i, text)
		}
		if got, ok := impl.PolRun(c.list, nil); ok != (c.f.Code == 0) || !ok && got != nil {
			t.Errorf("case %d: %v, %v", i, got, ok)
		}
		if got, ok := impl.PolDenies(c.list, nil); ok != (c.f.Code == 0) || !ok && got != nil {
			t.Errorf("case %d: %v, %v", i, got, ok)
		}
	}
}

// P31: rings with a not have no levels, those without any do.
func TestPolLevels(t *testing.T) {
	for _, c := range []struct {
		text string
		code int
	}{
		{"odd if not odd", 4}, {"odd if p and not odd", 4}, {"odd a if not odd b", 4}, {"odd if not odd a", 4}, {"a\nodd if not odd\nb if a", 4},
		{"p if not q\nq if not p", 4}, {"p if not q\nq if p", 4}, {"p if q\nq if not p", 4}, {"p if q\nq if p", 0},
		{"a if not b\nb if c\nc if a", 4}, {"a if b\nb if not c\nc if a", 4}, {"a if b\nb if c\nc if not a", 4}, {"c if not a\nb if c\na if b", 4}, {"a if b\nb if c\nc if a", 0}, {"a if not b\nb if not c\nc if not a", 4}, {"a if not b\nb if not c\nc if not d", 0},
		{"a if b and a and not d\nb if c\nc if a and not d\nd if not e\ne if e", 0}, {"a if b and a and not d\nb if c\nc if a and not d\nd if not e\ne if e\ne if a", 4},
		{"p if not none", 0}, {"p if not act and not attr a", 0}, {"p X if act K X and not p1 X\np1 X if act K X", 0}, {"p if p and not none", 0}, {"p if not q\np if q", 0}, {"p if q\np if not q\nq if p", 4},
		{"a if not b\nb if not c\nc if not d\nd if not e\ne if not f\nf if not g\ng if not h\nh if not i\ni if not j\nj if not k", 0},
		{"j if not k\ni if not j\nh if not i\ng if not h\nf if not g\ne if not f\nd if not e\nc if not d\nb if not c\na if not b", 0},
		{"a if not b\nb if not c\nc if not d\nd if not e\ne if not f\nf if not g\ng if not h\nh if not i\ni if not j\nj if a", 4}, {"a if b\nb if c\nc if d\nd if e\ne if f\nf if g\ng if h\nh if i\ni if j\nj if not a", 4}, {"a if b\nb if c\nc if d\nd if e\ne if f\nf if g\ng if h\nh if i\ni if j\nj if a", 0},
	} {
		list, f := impl.PolParse(c.text + "\n")
		if f != polFault(0, c.code) || c.code != 0 && list != nil || c.code == 0 && len(list) == 0 {
			t.Errorf("%q: %v, %v", c.text, list, f)
		}
	}
}

// P31, over rules made by chance, at each place.
func TestPolOdd(t *testing.T) {
	r := rand.New(rand.NewSource(31))
	for range 1500 {
		list := anyRules(r, 1)
		for at := range len(list) + 1 {
			more := slices.Insert(slices.Clone(list), at, rule("odd", "!odd"))
			if f := impl.PolCheck(more); f != polFault(0, 4) {
				t.Fatalf("%q: %v", ruleLines(more), f)
			}
			if got, f := impl.PolParse(ruleLines(more)); got != nil || f != polFault(0, 4) {
				t.Fatalf("%q is read as %v, %v", ruleLines(more), got, f)
			}
		}
	}
}

// P26 and the codes, over rules and texts made by chance.
func TestPolTextByChance(t *testing.T) {
	r := rand.New(rand.NewSource(26))
	codes := map[int]int{}
	for range 6000 {
		var list []impl.Rule
		for range r.Intn(5) {
			list = append(list, anyRule(r, 1))
		}
		if r.Intn(3) == 0 {
			list = spoiltRules(r, list)
		}
		f, text := impl.PolCheck(list), impl.PolWrite(list)
		codes[f.Code]++
		if want := modelPolCheck(list); f != want {
			t.Fatalf("%q: %v, not %v", ruleLines(list), f, want)
		}
		if f.Code != 0 {
			if text != "" {
				t.Fatalf("%v is written %q", list, text)
			}
			continue
		}
		if text != ruleLines(list) {
			t.Fatalf("%v is written %q", list, text)
		}
		if got, f := impl.PolParse(text); f.Code != 0 || !sameRules(got, list) {
			t.Fatalf("%q is read as %v, %v", text, got, f)
		}
		spoilt := spoilPlan(r, text)
		if got, f := impl.PolParse(spoilt); f.Code == 0 && (impl.PolWrite(got) != spoilt || f.At != 0) || f.Code != 0 && got != nil {
			t.Fatalf("%q is read as %v, %v", spoilt, got, f)
		}
	}
	for _, code := range []int{0, 1, 3, 4, 5} {
		if codes[code] < 20 {
			t.Errorf("code %d came %d times", code, codes[code])
		}
	}
}
