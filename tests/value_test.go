package tests

import (
	"math/rand"
	"regexp"
	"strings"
	"testing"

	"loop.example/portreeve/impl"
)

// P4: ValueParse of ValueShow is the value.
func TestValueShownIsRead(t *testing.T) {
	seen := map[string]bool{}
	for _, v := range goodValues() {
		text := impl.ValueShow(v)
		if !impl.ValueOk(v) || text != modelShow(v) || seen[text] {
			t.Errorf("%+v is written %q", v, text)
		}
		seen[text] = true
		if got, ok := impl.ValueParse(text); !ok || !same(got, v) {
			t.Errorf("%s is read as %+v, %v", text, got, ok)
		}
	}
}

// P4: what ValueParse reads ValueShow writes; the others have nothing and false.
func TestValueReadIsShown(t *testing.T) {
	for _, c := range []struct {
		ok    bool
		texts []string
	}{
		{true, []string{"null", "true", "false", "?", "0", "1", "-1", "999999", "-999999", "100000", "-100000", "10"}},
		{false, []string{"-0", "00", "01", "-01", "000001", "1000000", "-1000000", "0999999", "9999999", "99999999999999999999999", "-", "--1", "+1", "1.0", "1e3", "1_0", "0x1", " 1", "1 ", "1-", "1-2", "\xd9\xa1"}},
		{true, []string{`""`, `" "`, `"~"`, `"1234567890123456"`, `"'\n"`, `"[,]{:}?"`}},
		{false, []string{`"12345678901234567"`, `"`, `"""`, `"a`, `a"`, `"a"b"`, `"a""b"`, "\"\n\"", "\"\x1f\"", "\"\x7f\"", "\"\xff\"", "\"é\"", `'a'`}},
		{true, []string{"[]", "[1]", "[?]", "[1,2,3,4,5]", "[[]]", "[[[]]]", "[[{}]]", "[[1]]", `[[1,2],{a:"x"},null]`}},
		{false, []string{"[", "]", "[1", "1]", "[1,]", "[,1]", "[,]", "[1,,2]", "[1 ,2]", "[1, 2]", "[ ]", "[1}", "[1,2,3,4,5,6]", "[1,2,3,4,5,]", "[a]", "[a:1]", "[[[1]]]", "[[[[]]]]", "[[{a:1}]]", "[[[?]]]", "[null", "[nul]"}},
		{true, []string{"{}", "{a:1}", "{a:{}}", "{a:{b:{}}}", "{a:{b:[]}}", "{a:1,b:2,c:3,d:4,e:5}", "{a:1,a0:2,aa:3,b:4}", "{abcdefg:1}", "{a123456:1}", `{a:"}"}`}},
		{false, []string{"{", "}", "{a}", "{a:}", "{:1}", "{a:1", "{a:1,}", "{,a:1}", "{a:1,b}", "{a:1]", "{a :1}", "{a: 1}", "{ a:1}", "{a=1}", `{"a":1}`, "{A:1}", "{0:1}", "{0a:1}", "{a-b:1}", "{abcdefgh:1}", "{a:1,a:2}", "{b:1,a:2}", "{a:1,b:2,c:3,d:4,e:5,f:6}", "{a0:1,a:2}", "{aa:1,a0:2}", "{a:{b:{c:1}}}", "{a:{b:[1]}}", "{\xc3\xa9:1}"}},
		{true, []string{"[[1,2],[1,2],[1,2],[1,2],[1,2]]", "[[1,2,3,4,5],[1,2,3,4,5],1,2,3]", "{a:[1,2,3,4,5],b:[1,2,3,4,5],c:1,d:1,e:1}"}},
		{false, []string{"[[1,2],[1,2],[1,2],[1,2],[1,2,3]]", "[[1,2,3,4,5],[1,2,3,4,5],[1],2,3]", "[[1,2,3,4,5],[1,2,3,4,5],[1,2,3,4,5]]", "{a:[1,2,3,4,5],b:[1,2,3,4,5],c:1,d:1,e:[1]}"}},
		{false, []string{"", " ", "n", "nul", "nulll", "Null", "NULL", "nil", "tru", "truee", "True", "falsee", "fals", "??", "? ", " ?", "null ", "null\n", "null\x00", "nullnull", "[]]", "[][]", "{}{}", "[],", "1,2", `""x`, "\x00", "\xff", "é"}},
	} {
		for _, text := range c.texts {
			v, ok := impl.ValueParse(text)
			if ok != c.ok || ok && impl.ValueShow(v) != text || !ok && !nothing(v) {
				t.Errorf("%q is read as %+v, %v", text, v, ok)
			}
		}
	}
}

// P4, at each text of up to six bytes of those that matter, held against the grammar.
func TestValueShortTexts(t *testing.T) {
	plain := `null|true|false|0|-?[1-9][0-9]{0,5}|"[ !#-~]{0,16}"|\?`
	around := func(inner string) string {
		return `\[((` + inner + `)(,(` + inner + `)){0,4})?\]|\{([a-z][a-z0-9]{0,6}:(` + inner + `)(,[a-z][a-z0-9]{0,6}:(` + inner + `)){0,4})?\}|` + plain
	}
	grammar := regexp.MustCompile(`^(` + around(around(plain+`|\[\]|\{\}`)) + `)$`)
	var walk func(text string)
	walk = func(text string) {
		v, ok := impl.ValueParse(text)
		if ok != grammar.MatchString(text) || ok && impl.ValueShow(v) != text || !ok && !nothing(v) {
			t.Errorf("%q is read as %+v, %v", text, v, ok)
		}
		if len(text) < 6 {
			for _, c := range `[]{},:a0-"` {
				walk(text + string(c))
			}
		}
	}
	walk("")
}

// P4 and P6: values that are not ok have the fixed answers, wherever they stand.
func TestValueNotOk(t *testing.T) {
	for i, v := range badValues() {
		if impl.ValueOk(v) || impl.ValueShow(v) != "" || impl.ValueKnown(v) {
			t.Errorf("case %d is taken for ok", i)
		}
		for _, w := range append(goodValues(), v) {
			if impl.ValueLess(v, w) || impl.ValueLess(w, v) || impl.ValueFits(v, w) || impl.ValueFits(w, v) {
				t.Errorf("case %d, held against %s", i, impl.ValueShow(w))
			}
		}
	}
}

// P4, with the model: what is ok, how it is written, and that it is read again.
func TestValueModel(t *testing.T) {
	r := rand.New(rand.NewSource(1))
	good, bad := 0, 0
	for range 60000 {
		v := anyValue(r, 1)
		if !modelOk(v) {
			bad++
			if impl.ValueOk(v) || impl.ValueShow(v) != "" {
				t.Fatalf("%+v is taken for ok", v)
			}
			continue
		}
		good++
		text := impl.ValueShow(v)
		got, ok := impl.ValueParse(text)
		if !impl.ValueOk(v) || text != modelShow(v) || !ok || !same(got, v) {
			t.Fatalf("%+v is written %q and read as %+v", v, text, got)
		}
		if impl.ValueKnown(v) == strings.Contains(text, "?") {
			t.Fatalf("known: %s", text)
		}
	}
	if good < 10000 || bad < 2000 {
		t.Errorf("%d good ones and %d bad ones are too few", good, bad)
	}
}

// P4, at texts that were written, with one byte changed, put in or left out.
func TestValueSpoiltTexts(t *testing.T) {
	r := rand.New(rand.NewSource(2))
	bytes := `[]{},:ab09-"? ntf` + "\n\x7f"
	for range 60000 {
		text := impl.ValueShow(anyValue(r, 1))
		at, c := r.Intn(len(text)+1), string(bytes[r.Intn(len(bytes))])
		spoilt := text[:at] + c + text[at:]
		if at < len(text) && r.Intn(3) > 0 {
			spoilt = text[:at] + text[at+1:]
		} else if at < len(text) && r.Intn(2) > 0 {
			spoilt = text[:at] + c + text[at+1:]
		}
		v, ok := impl.ValueParse(spoilt)
		if ok && impl.ValueShow(v) != spoilt || ok != impl.ValueOk(v) || !ok && !nothing(v) {
			t.Fatalf("%q is read as %+v, %v", spoilt, v, ok)
		}
	}
}

func TestValueLongTexts(t *testing.T) {
	for _, text := range []string{"[", "{a:", "1", "\"", "[1,", "-", "n", "?", "{"} {
		if v, ok := impl.ValueParse(strings.Repeat(text, 200000)); ok || !nothing(v) {
			t.Errorf("%q, again and again, is read", text)
		}
	}
}

// P5: the order that the chapter tells, of values of all sorts.
func TestValueOrder(t *testing.T) {
	order := []string{"null", "false", "true", "-999999", "-10", "-9", "-1", "0", "1", "9", "10", "999999",
		`""`, `" "`, `"A"`, `"a"`, `"a "`, `"aa"`, `"b"`, `"~"`,
		"[]", "[null]", "[null,null]", "[null,1]", "[1]", "[1,1]", "[2]", "[10]", `["z"]`, "[[]]", "[[1],2]", "[[2],1]", "[{}]", "[?]", "[?,?]",
		"{}", "{a:null}", "{a:null,b:1}", "{a:1}", "{a:1,b:1}", "{a:1,b:2}", "{a:1,c:1}", "{a:2}", "{a:2,b:1}", "{a:[]}", "{a:?}", "{a0:1}", "{aa:1}", "{b:null}", "{b:1}", "?"}
	for i := range order {
		for k := range order {
			a, okA := impl.ValueParse(order[i])
			b, okB := impl.ValueParse(order[k])
			if !okA || !okB || impl.ValueLess(a, b) != (i < k) {
				t.Errorf("%s and %s: %v", order[i], order[k], impl.ValueLess(a, b))
			}
		}
	}
}

// P5: one way just if the texts differ, and never both; and three in a row.
func TestValueOrderIsOne(t *testing.T) {
	all := goodValues()
	r := rand.New(rand.NewSource(3))
	for len(all) < 160 {
		if v := anyValue(r, 1); modelOk(v) {
			all = append(all, v)
		}
	}
	less := make([][]bool, len(all))
	for i, a := range all {
		less[i] = make([]bool, len(all))
		for k, b := range all {
			less[i][k] = impl.ValueLess(a, b)
			if (less[i][k] || impl.ValueLess(b, a)) != (modelShow(a) != modelShow(b)) || less[i][k] && impl.ValueLess(b, a) {
				t.Errorf("%s and %s", modelShow(a), modelShow(b))
			}
		}
	}
	for i := range all {
		for k := range all {
			for m := range all {
				if less[i][k] && less[k][m] && !less[i][m] {
					t.Errorf("%s, %s, %s", modelShow(all[i]), modelShow(all[k]), modelShow(all[m]))
				}
			}
		}
	}
}

// P6: each fits itself and `?`; what is known is fitted by itself alone.
func TestValueFitsKnown(t *testing.T) {
	for _, v := range goodValues() {
		if !impl.ValueFits(v, v) || !impl.ValueFits(v, unknown()) {
			t.Errorf("%s", modelShow(v))
		}
		for _, like := range goodValues() {
			if impl.ValueKnown(like) && impl.ValueFits(v, like) != (modelShow(v) == modelShow(like)) {
				t.Errorf("%s and %s", modelShow(v), modelShow(like))
			}
		}
	}
}

// P6, where a part is not known: it may be anything that keeps the value as it is around it.
func TestValueFitsUnknown(t *testing.T) {
	for _, c := range []struct {
		v, like string
		fits    bool
	}{
		{"[1]", "[?]", true}, {"[[1,2]]", "[?]", true}, {"[?]", "[?]", true}, {"[?]", "[1]", false}, {"?", "1", false}, {"?", "[?]", false},
		{"[1,2]", "[?]", false}, {"[]", "[?]", false}, {"[1,2]", "[?,3]", false}, {"[1,2]", "[?,2]", true}, {"[1]", "{a:?}", false},
		{"{a:1,b:[2]}", "{a:?,b:[?]}", true}, {"{a:1,b:[2]}", "{a:?,c:[?]}", false}, {"{a:1}", "{b:?}", false}, {"{a:1,b:1}", "{a:?}", false}, {"{a:1}", "{a:?,b:?}", false},
		{"{a:{b:1}}", "{a:{b:?}}", true}, {"{a:{b:1}}", "{a:{c:?}}", false}, {"{a:[]}", "{a:{}}", false}, {"1", "2", false}, {"0", "false", false}, {`""`, "null", false}, {`"a"`, `"b"`, false},
	} {
		v, okV := impl.ValueParse(c.v)
		like, okLike := impl.ValueParse(c.like)
		if !okV || !okLike || impl.ValueFits(v, like) != c.fits {
			t.Errorf("%s and %s: %v", c.v, c.like, !c.fits)
		}
	}
}

// P6: `?` is found however deep it stands.
func TestValueKnownDeep(t *testing.T) {
	for _, c := range []struct {
		text  string
		known bool
	}{
		{"?", false}, {"[?]", false}, {"[1,2,3,4,?]", false}, {"[[?]]", false}, {"[[1],[2,?]]", false}, {"{a:?}", false}, {"{a:1,b:{c:?}}", false}, {"{a:1,b:[2,?]}", false}, {"[{a:?}]", false},
		{"null", true}, {"0", true}, {"false", true}, {`"?"`, true}, {`["?"]`, true}, {"[]", true}, {"{}", true}, {"[[1],{a:2}]", true}, {`{a:{b:"?"}}`, true},
	} {
		if v, ok := impl.ValueParse(c.text); !ok || impl.ValueKnown(v) != c.known {
			t.Errorf("%s", c.text)
		}
	}
}

// Answers are new memory, and arguments stay as they are.
func TestValueMemory(t *testing.T) {
	text := "{a:[1,2],b:[1,2],c:{d:1}}"
	first, _ := impl.ValueParse(text)
	other, _ := impl.ValueParse(text)
	first.Names[0] = "x"
	first.Kids[0].Kids[0] = null()
	first.Kids[0].Kids = append(first.Kids[0].Kids, null())
	first.Names = append(first.Names, "y")
	if impl.ValueShow(other) != text || impl.ValueShow(first.Kids[1]) != "[1,2]" || impl.ValueShow(first.Kids[2]) != "{d:1}" {
		t.Error("two answers, or two lists of one, share memory")
	}
	for _, v := range goodValues() {
		before := modelShow(v)
		impl.ValueOk(v)
		impl.ValueShow(v)
		impl.ValueKnown(v)
		impl.ValueLess(v, v)
		impl.ValueFits(v, v)
		if modelShow(v) != before {
			t.Errorf("%s became %s", before, modelShow(v))
		}
	}
}

func TestValueEmptyListIsNil(t *testing.T) {
	for _, v := range []impl.Value{null(), boolean(1), number(1), words("a"), list(), object(""), unknown()} {
		w := v
		v.Names, v.Kids = nil, nil
		w.Names, w.Kids = []string{}, []impl.Value{}
		if !impl.ValueOk(v) || !impl.ValueOk(w) || impl.ValueShow(v) != impl.ValueShow(w) || impl.ValueLess(v, w) || impl.ValueLess(w, v) || !impl.ValueFits(v, w) || !impl.ValueFits(w, v) {
			t.Errorf("%s", impl.ValueShow(v))
		}
	}
}
