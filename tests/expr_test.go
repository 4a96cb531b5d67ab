package tests

import (
	"math/rand"
	"slices"
	"strings"
	"testing"

	"loop.example/portreeve/impl"
)

// P7: ExprParse of ExprWrite is the expression.
func TestExprWrittenIsRead(t *testing.T) {
	seen := map[string]bool{}
	for _, e := range goodExprs() {
		text := impl.ExprWrite(e)
		want, _, _, _ := modelExpr(e)
		if !impl.ExprOk(e) || text != want || seen[text] {
			t.Errorf("%+v is written %q, not %q", e, text, want)
		}
		seen[text] = true
		if got, ok := impl.ExprParse(text); !ok || !sameExpr(got, e) {
			t.Errorf("%s is read as %+v, %v", text, got, ok)
		}
	}
}

// P7: what ExprParse reads ExprWrite writes; the others have nothing and false.
func TestExprReadIsWritten(t *testing.T) {
	for _, c := range []struct {
		ok    bool
		texts []string
	}{
		{true, []string{"1", "0", "-1", "999999", "null", "true", "false", `""`, `" "`, `"a b"`, `"a  b"`, `" a "`, `"add 1 2"`}},
		{false, []string{"", " ", "-0", "01", "1000000", "+1", "?", "[]", "{}", "[1]", "{a:1}", `"`, `"a`, `a"`, `"""`, `"a"b`, `"a""b"`, `"a" `, ` "a"`, `"12345678901234567"`, "\"\n\"", "\"\t\"", "'a'"}},
		{true, []string{"n", "abcdefg", "a1", "nul", "truex", "iff", "lists", "end", "input", "let", "thing", "output", "id"}},
		{false, []string{"N", "1a", "abcdefgh", "a_b", "a.b", "n ", " n", "n n", "n\n", "\nn", "n\t", "n\x00", "é"}},
		{true, []string{"@vm.a.id", "@a.b.c", "@if.not.and", "@null.true.false", "@abcdefg.abcdefg.abcdefg"}},
		{false, []string{"@", "@vm", "@vm.a", "@vm.a.", "@vm..id", "@.a.id", "@vm.a.b.c", "vm.a.id", "@ vm.a.id", "@vm.a.id ", "@@vm.a.id", "@VM.a.id", "@vm.a.Id", "@vm.0.id", "@vm.a.0", "@abcdefgh.a.b", "@a.abcdefgh.b", "@a.b.abcdefgh", "@\"a\".b.c"}},
		{true, []string{"add 1 2", "sub a b", `cat "a b" "c d"`, "same null null", "less 1 2", "if a b c", "not a", "and a b", "or a b", "at l 0", "size l", "each x l x", "each x each x l x x"}},
		{false, []string{"add", "add 1", "add 1 2 3", "add  1 2", "add 1  2", " add 1 2", "add 1 2 ", "add 1 2\n", "add\t1 2", "add,1,2", "Add 1 2", "ADD 1 2", "if a b", "if a b c d", "not", "not a b", "at l", "size", "size l l", "add add 1 2", "add 1 add 2", "or"}},
		{true, []string{"list 0", "list 1 1", "list 2 1 2", "list 3 1 2 3", "list 4 1 2 3 4", "list 4 a b c d", "list 1 list 0", `list 2 "a  b" " "`}},
		{false, []string{"list", "list ", "list 0 ", "list 0 1", "list 1", "list 1 1 1", "list 2 1", "list 4 1 2 3", "list 5 1 2 3 4 5", "list 01 1", "list 00", "list -0", "list -1", "list +1 1", "list n 1", "list 9", "list 4294967297 1", "list 18446744073709551617 1", "list list 0", "list \"1\" 1"}},
		{false, []string{"each", "each x", "each x l", "each x l x x", "each 1 l x", "each X l x", "each if l x", "each null l x", "each add 1 2 x", "each \"x\" l x", "each @a.b.c l x", "each  l x"}},
		{true, []string{"not not not not true", "add add add add 1 1 1 1 1", `list 2 "a b" list 1 "c  d"`}},
		{false, []string{"not not not not not true", "add add add add add 1 1 1 1 1 1"}},
		{false, []string{"add 1 add", "1 2", "n add", "null null", "true false", `"a" "b"`, "1 ", "add 1 N", "add ? 1", "not []", "not list", "\xff", "\x00", "add\x001 2", "n;", "n,", "(n)"}},
	} {
		for _, text := range c.texts {
			e, ok := impl.ExprParse(text)
			if ok != c.ok || ok && (impl.ExprWrite(e) != text || !impl.ExprOk(e)) || !ok && !noExpr(e) {
				t.Errorf("%q is read as %+v, %v", text, e, ok)
			}
		}
	}
}

// P7, at each name that is a word of something else.
func TestExprReservedNames(t *testing.T) {
	for _, word := range reserved() {
		e, ok := impl.ExprParse(word)
		if ok != slices.Contains([]string{"null", "true", "false"}, word) || ok && e.Op != impl.ExprValue {
			t.Errorf("%s is read as %+v, %v", word, e, ok)
		}
		if _, ok := impl.ExprParse("each " + word + " l 1"); ok {
			t.Errorf("an X can be %s", word)
		}
		text := "@" + word + "." + word + "." + word
		if e, ok := impl.ExprParse(text); !ok || impl.ExprWrite(e) != text {
			t.Errorf("%s is read as %+v, %v", text, e, ok)
		}
	}
}

// shortTexts is all texts of so many words that the table makes of a few words.
func shortTexts(most int) []map[string]bool {
	sets := []map[string]bool{{}}
	for _, word := range []string{"0", "1", "2", `"a  b"`, "n", "null", "@a.b.c"} {
		if len(sets) == 1 {
			sets = append(sets, map[string]bool{})
		}
		sets[1][word] = true
	}
	join := func(n int, head string, kids int) {
		rows := []string{head}
		sizes := map[string]int{head: 0}
		for range kids {
			var more []string
			for _, row := range rows {
				for size := 1; sizes[row]+size <= n; size++ {
					for text := range sets[size] {
						more = append(more, row+" "+text)
						sizes[row+" "+text] = sizes[row] + size
					}
				}
			}
			rows = more
		}
		for _, row := range rows {
			if sizes[row] == n {
				sets[len(sets)-1][row] = true
			}
		}
	}
	for n := 2; n <= most; n++ {
		sets = append(sets, map[string]bool{})
		join(n-1, "not", 1)
		join(n-1, "add", 2)
		join(n-1, "if", 3)
		join(n-2, "list 0", 0)
		join(n-2, "list 1", 1)
		join(n-2, "list 2", 2)
		join(n-2, "each n", 2)
	}
	return sets
}

// P7, at each text of up to five of a few words, held against what the table makes of them.
func TestExprShortTexts(t *testing.T) {
	alphabet := []string{"0", "1", "2", `"a  b"`, "n", "null", "@a.b.c", "not", "add", "if", "list", "each"}
	texts := []string{""}
	for n, want := range shortTexts(5) {
		if n == 0 {
			continue
		}
		var more []string
		for _, text := range texts {
			for _, word := range alphabet {
				more = append(more, strings.TrimPrefix(text+" "+word, " "))
			}
		}
		texts = more
		count := 0
		for _, text := range texts {
			e, ok := impl.ExprParse(text)
			if ok != want[text] || ok && impl.ExprWrite(e) != text {
				t.Fatalf("%q is read as %+v, %v", text, e, ok)
			}
			if ok {
				count++
			}
		}
		if count != len(want) || count == 0 {
			t.Errorf("%d of %d texts of %d words are read", count, len(want), n)
		}
	}
}

// P7: at each limit, and one beyond it.
func TestExprLimits(t *testing.T) {
	for _, c := range []struct {
		what string
		e    impl.Expr
		ok   bool
	}{
		{"5 levels", deep(5), true}, {"6 levels", deep(6), false},
		{"24 parts", wide(24), true}, {"25 parts", wide(25), false},
		{"160 bytes", long(160), true}, {"161 bytes", long(161), false},
		{"4 in a list", op(impl.ExprList, one(), one(), one(), one()), true}, {"5 in a list", op(impl.ExprList, one(), one(), one(), one(), one()), false},
	} {
		text, _, _, _ := modelExpr(c.e)
		e, ok := impl.ExprParse(text)
		if impl.ExprOk(c.e) != c.ok || (impl.ExprWrite(c.e) == text) != c.ok || ok != c.ok || ok && !sameExpr(e, c.e) {
			t.Errorf("%s: %s is read as %+v, %v", c.what, text, e, ok)
		}
	}
	if text, parts, _, _ := modelExpr(wide(24)); parts != 24 || len(text) > 160 {
		t.Error("the test is wrong:", parts, len(text))
	}
	if text, _, _, _ := modelExpr(long(160)); len(text) != 160 {
		t.Error("the test is wrong:", len(text))
	}
	for _, text := range []string{strings.Repeat("not ", 1<<20) + "n", strings.Repeat("a", 1<<20), strings.Repeat("\"", 1<<20), strings.Repeat(" ", 1<<20)} {
		if e, ok := impl.ExprParse(text); ok || !noExpr(e) {
			t.Error("a text of a megabyte is read")
		}
	}
}

// An expression that is not ok is not written, and asks of nothing.
func TestExprNotOk(t *testing.T) {
	for _, e := range badExprs() {
		if modelExprOk(e) {
			t.Errorf("the test is wrong: %+v", e)
		}
	}
	for i, e := range append(badExprs(), endlessExprs()...) {
		if impl.ExprOk(e) || impl.ExprWrite(e) != "" || len(impl.ExprRefs(e)) != 0 {
			t.Errorf("case %d (Op %d) is ok", i, e.Op)
		}
		inside := op(impl.ExprAnd, ref("vm.a", "id"), e)
		if impl.ExprOk(inside) || impl.ExprWrite(inside) != "" || len(impl.ExprRefs(inside)) != 0 {
			t.Errorf("case %d (Op %d) is ok inside another one", i, e.Op)
		}
	}
}

// P7, over expressions made by chance, held against the model.
func TestExprModel(t *testing.T) {
	r := rand.New(rand.NewSource(7))
	good := 0
	for range 40000 {
		e := anyExpr(r, 1)
		want, _, _, _ := modelExpr(e)
		if ok := modelExprOk(e); !ok {
			want = ""
		} else {
			good++
		}
		text := impl.ExprWrite(e)
		if text != want || impl.ExprOk(e) != (want != "") {
			t.Fatalf("%+v is written %q, not %q", e, text, want)
		}
		if got, ok := impl.ExprParse(text); ok != (want != "") || ok && !sameExpr(got, e) {
			t.Fatalf("%s is read as %+v, %v", text, got, ok)
		}
	}
	if good < 5000 || good > 38000 {
		t.Errorf("the test is wrong: %d", good)
	}
}

// P7, over texts that are nearly right.
func TestExprSpoiltTexts(t *testing.T) {
	r := rand.New(rand.NewSource(8))
	for range 60000 {
		text := impl.ExprWrite(anyExpr(r, 1))
		at := r.Intn(len(text) + 1)
		switch r.Intn(4) {
		case 0:
			text = text[:at] + " " + text[at:]
		case 1:
			text = text[:at] + text[min(at+1, len(text)):]
		case 2:
			text = text[:at] + []string{"\"", "@", ".", "0", "-", "\n", "a", " n", "A"}[r.Intn(9)] + text[at:]
		case 3:
			text += []string{" ", " n", "\n", " 1", "\"\""}[r.Intn(5)]
		}
		e, ok := impl.ExprParse(text)
		if ok && (impl.ExprWrite(e) != text || !modelExprOk(e)) || !ok && !noExpr(e) {
			t.Fatalf("%q is read as %+v, %v", text, e, ok)
		}
	}
}

// One space more outside of a text makes it none, wherever it is.
func TestExprSpaces(t *testing.T) {
	for _, e := range goodExprs() {
		text := impl.ExprWrite(e)
		for at := 0; at <= len(text); at++ {
			got, ok := impl.ExprParse(text[:at] + " " + text[at:])
			if inside := strings.Count(text[:at], "\"")%2 == 1; ok && !inside || ok && sameExpr(got, e) {
				t.Errorf("%s with a space at %d is read", text, at)
			}
		}
	}
}

// ExprRefs is all ids, each once, ascending.
func TestExprRefs(t *testing.T) {
	for _, c := range []struct{ text, want string }{
		{"1", ""}, {"n", ""}, {`"@vm.a.id"`, ""},
		{"@vm.a.id", "vm.a"}, {"cat @vm.a.id @vm.a.id", "vm.a"}, {"cat @vm.a.id @vm.a.size", "vm.a"},
		{"cat @vm.b.id @vm.a.id", "vm.a vm.b"}, {"list 4 @b.a.id @a.b.id @a.a.id @b.a.x", "a.a a.b b.a"},
		{"if @c.c.id @b.b.id @a.a.id", "a.a b.b c.c"}, {"each x @l.l.id cat x @a.a.id", "a.a l.l"},
		{"not not not not @vm.a.id", "vm.a"}, {"not not not not not @vm.a.id", ""}, {"list 3 @a.b.c @ab.c.d @a1.b.c", "a.b a1.b ab.c"},
	} {
		e, _ := impl.ExprParse(c.text)
		if got := strings.Join(impl.ExprRefs(e), " "); got != c.want {
			t.Errorf("%s asks of %q, not %q", c.text, got, c.want)
		}
	}
	r := rand.New(rand.NewSource(9))
	for range 5000 {
		e := anyExpr(r, 1)
		var want []string
		if modelExprOk(e) {
			for _, word := range strings.Fields(impl.ExprWrite(e)) {
				if strings.HasPrefix(word, "@") {
					want = append(want, word[1:strings.LastIndex(word, ".")])
				}
			}
		}
		slices.Sort(want)
		if got := impl.ExprRefs(e); !slices.Equal(got, slices.Compact(want)) {
			t.Fatalf("%s asks of %v", impl.ExprWrite(e), got)
		}
	}
}

// Answers are new memory, and arguments stay as they are.
func TestExprMemory(t *testing.T) {
	text := "list 3 cat @a.b.c n list 2 1 2 each x l list 1 x"
	first, _ := impl.ExprParse(text)
	other, _ := impl.ExprParse(text)
	rest := [2]string{impl.ExprWrite(first.Kids[1]), impl.ExprWrite(first.Kids[2])}
	first.Kids[0].Kids = append(first.Kids[0].Kids, one())
	first.Kids[0].Kids[0] = one()
	if impl.ExprWrite(other) != text || impl.ExprWrite(first.Kids[1]) != rest[0] || impl.ExprWrite(first.Kids[2]) != rest[1] {
		t.Error("two answers, or two lists of one, share memory")
	}
	kids := []impl.Expr{ref("vm.b", "id"), ref("vm.a", "id"), named("behind")}
	e := op(impl.ExprCat, kids[:2]...)
	refs := impl.ExprRefs(e)
	impl.ExprOk(e)
	refs[0] = "x"
	refs = append(refs[:1], "y")
	if impl.ExprWrite(e) != "cat @vm.b.id @vm.a.id" || kids[2].Text != "behind" || impl.ExprRefs(e)[0] != "vm.a" || len(refs) != 2 {
		t.Errorf("%+v", kids)
	}
	empty := impl.Expr{Op: impl.ExprName, Text: "n", Value: impl.Value{Names: []string{}, Kids: []impl.Value{}}, Kids: []impl.Expr{}}
	if impl.ExprWrite(empty) != "n" {
		t.Error("the empty list is not nothing")
	}
}

// No text of an answer lies within one of an argument.
func TestExprTextMemory(t *testing.T) {
	text := strings.Clone(`list 3 "a b" n each x @vm.a.id x`)
	e, _ := impl.ExprParse(text)
	for _, part := range texts(e) {
		if shares(part, text) {
			t.Errorf("%s lies within what was read", part)
		}
	}
	for _, part := range impl.ExprRefs(e) {
		if slices.ContainsFunc(texts(e), func(whole string) bool { return shares(part, whole) }) {
			t.Errorf("%s lies within the expression", part)
		}
	}
	name := named(strings.Clone("name"))
	if shares(impl.ExprWrite(name), name.Text) {
		t.Error("what is written lies within the expression")
	}
}
