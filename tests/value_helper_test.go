package tests

import (
	"math/rand"
	"strconv"
	"strings"

	"loop.example/portreeve/impl"
)

func null() impl.Value                { return impl.Value{Sort: impl.ValNull} }
func unknown() impl.Value             { return impl.Value{Sort: impl.ValUnknown} }
func number(n int) impl.Value         { return impl.Value{Sort: impl.ValInt, Num: n} }
func boolean(n int) impl.Value        { return impl.Value{Sort: impl.ValBool, Num: n} }
func words(text string) impl.Value    { return impl.Value{Sort: impl.ValText, Text: text} }
func list(v ...impl.Value) impl.Value { return impl.Value{Sort: impl.ValList, Kids: v} }

// object has its names in one text, with spaces between.
func object(names string, v ...impl.Value) impl.Value {
	return impl.Value{Sort: impl.ValObject, Names: strings.Fields(names), Kids: v}
}

// same says whether values are the same, the empty list and the nil list being one.
func same(a, b impl.Value) bool {
	if a.Sort != b.Sort || a.Num != b.Num || a.Text != b.Text || len(a.Names) != len(b.Names) || len(a.Kids) != len(b.Kids) {
		return false
	}
	for i := range a.Names {
		if a.Names[i] != b.Names[i] {
			return false
		}
	}
	for i := range a.Kids {
		if !same(a.Kids[i], b.Kids[i]) {
			return false
		}
	}
	return true
}

// nothing says whether a value is the zero one.
func nothing(v impl.Value) bool {
	return same(v, impl.Value{}) && v.Names == nil && v.Kids == nil
}

// modelName says the document's words on names.
func modelName(s string) bool {
	if len(s) == 0 || len(s) > 7 || strings.Trim(s[:1], "abcdefghijklmnopqrstuvwxyz") != "" {
		return false
	}
	return strings.Trim(s, "abcdefghijklmnopqrstuvwxyz0123456789") == ""
}

// modelParts is how many parts a value has, and its levels.
func modelParts(v impl.Value) (int, int) {
	parts, levels := 1, 0
	for _, kid := range v.Kids {
		p, l := modelParts(kid)
		parts, levels = parts+p, max(levels, l)
	}
	return parts, levels + 1
}

func modelOk(v impl.Value) bool {
	parts, levels := modelParts(v)
	return parts <= 16 && levels <= 3 && modelTable(v)
}

func modelTable(v impl.Value) bool {
	if len(v.Kids) > 5 {
		return false
	}
	for _, kid := range v.Kids {
		if !modelTable(kid) {
			return false
		}
	}
	num, text, names, kids := v.Num == 0, v.Text == "", len(v.Names) == 0, len(v.Kids) == 0
	switch v.Sort {
	case 1, 7:
		return num && text && names && kids
	case 2:
		return (num || v.Num == 1) && text && names && kids
	case 3:
		return v.Num >= -999999 && v.Num <= 999999 && text && names && kids
	case 4:
		for i := range len(v.Text) {
			if c := v.Text[i]; c < 32 || c > 126 || c == '"' {
				return false
			}
		}
		return num && len(v.Text) <= 16 && names && kids
	case 5:
		return num && text && names
	case 6:
		for i, name := range v.Names {
			if !modelName(name) || i > 0 && v.Names[i-1] >= name {
				return false
			}
		}
		return num && text && len(v.Names) == len(v.Kids)
	}
	return false
}

func modelShow(v impl.Value) string {
	var kids []string
	for i, kid := range v.Kids {
		text := modelShow(kid)
		if v.Sort == 6 {
			text = v.Names[i] + ":" + text
		}
		kids = append(kids, text)
	}
	switch v.Sort {
	case 1:
		return "null"
	case 2:
		return []string{"false", "true"}[v.Num]
	case 3:
		return strconv.Itoa(v.Num)
	case 4:
		return `"` + v.Text + `"`
	case 5:
		return "[" + strings.Join(kids, ",") + "]"
	case 6:
		return "{" + strings.Join(kids, ",") + "}"
	}
	return "?"
}

// goodValues is values that are ok, of each sort and at each limit.
func goodValues() []impl.Value {
	five := list(number(1), number(2), number(3), number(4), number(5))
	two := list(null(), null())
	return []impl.Value{
		null(), boolean(0), boolean(1), unknown(),
		number(0), number(-1), number(1), number(7), number(10), number(-10), number(99999), number(100000), number(-100000), number(999999), number(-999999),
		words(""), words(" "), words("a"), words("ab"), words("b"), words("~"), words("?"), words("null"), words("[1,2]"), words("'\\{}:,"), words("1234567890123456"),
		list(), list(null()), list(unknown()), list(number(1)), list(number(1), number(2)), list(number(2)), list(number(2), number(1)), five,
		list(list()), list(list(list())), list(list(object(""))), list(list(number(1), unknown())), list(list(words("deep"))),
		list(two, two, two, two, two),
		object(""), object("a", null()), object("a", unknown()), object("a", number(1)), object("a", number(2)), object("b", number(1)), object("ab", number(1)),
		object("a b", number(1), number(2)), object("a b", number(1), unknown()), object("a c", number(1), number(2)), object("a a0 aa b z", null(), null(), null(), null(), null()),
		object("a", list(object(""))), object("a", object("b", number(3))), object("a", object("b", unknown())), object("abcdefg", number(1)), object("a123456 z9", number(1), five),
		list(object("a", number(1)), object("a", number(2))), list(object("a", unknown()), object("b", unknown())),
	}
}

// badValues is values that are not ok, each by one thing.
func badValues() []impl.Value {
	self := make([]impl.Value, 1)
	self[0] = impl.Value{Sort: impl.ValList, Kids: self}
	wide := make([]impl.Value, 5)
	for i := range wide {
		wide[i] = impl.Value{Sort: impl.ValObject, Names: []string{"a", "b", "c", "d", "e"}, Kids: wide}
	}
	two, three := list(null(), null()), list(null(), null(), null())
	bad := []impl.Value{
		{}, {Sort: -1}, {Sort: 8}, {Sort: 1 << 40}, {Sort: -1 << 63},
		boolean(2), boolean(-1), number(1000000), number(-1000000), number(1 << 62), number(-1 << 63),
		words("12345678901234567"), words("\""), words("a\"b"), words("\x1f"), words("\n"), words("\x7f"), words("\x80"), words("\xff"), words("é"), words("\x00"),
		list(null(), null(), null(), null(), null(), null()),
		list(list(list(null()))), list(list(list(list()))), list(list(object("a", null()))), object("a", object("b", object("c", null()))),
		list(three, two, two, two, two), list(impl.Value{}), list(list(number(1000000))), list(boolean(2)),
		object("a b", null()), object("a", null(), null()), object("a"), object("", null()), object("b a", null(), null()), object("a a", null(), null()),
		object("A", null()), object("0", null()), object("a-b", null()), object("a_", null()), object("abcdefgh", null()), object("é", null()),
		object("a b c d e f", null(), null(), null(), null(), null(), null()),
		{Sort: impl.ValObject, Names: []string{""}, Kids: []impl.Value{null()}},
		{Sort: impl.ValObject, Names: []string{"a b"}, Kids: []impl.Value{null()}},
		list(self...), {Sort: impl.ValObject, Names: []string{"a", "b", "c", "d", "e"}, Kids: wide},
		{Sort: impl.ValList, Kids: make([]impl.Value, 100000)}, {Sort: impl.ValObject, Names: make([]string, 100000)},
	}
	return append(bad, strayValues()...)
}

// strayValues is values with a part that the table does not give to their sort.
func strayValues() []impl.Value {
	var bad []impl.Value
	for sort := impl.ValNull; sort <= impl.ValUnknown; sort++ {
		v := impl.Value{Sort: sort}
		if sort != impl.ValBool && sort != impl.ValInt {
			v.Num = 1
			bad = append(bad, v, list(v))
			v.Num = 0
		}
		if sort != impl.ValText {
			v.Text = "a"
			bad = append(bad, v, list(v))
			v.Text = ""
		}
		v.Names = []string{"a"}
		bad = append(bad, v, object("a", v))
		if sort != impl.ValList {
			v.Names, v.Kids = nil, []impl.Value{null()}
			bad = append(bad, v, list(v))
		}
		if sort != impl.ValObject {
			v.Names, v.Kids = []string{"a"}, []impl.Value{null()}
			bad = append(bad, v)
		}
	}
	return bad
}

// anyValue is some value, ok more often than not.
func anyValue(r *rand.Rand, level int) impl.Value {
	sort := 1 + r.Intn(7)
	if level < 3 && r.Intn(2) == 0 {
		sort = 5 + r.Intn(2)
	}
	v := impl.Value{Sort: sort}
	switch {
	case sort == 2:
		v.Num = r.Intn(2)
	case sort == 3:
		v.Num = []int{0, 1, -1, 9, 999999, -999999, 100000}[r.Intn(7)]
	case sort == 4:
		v.Text = []string{"", "a", "a b", "z,]", "1234567890123456"}[r.Intn(5)]
	case (sort == 5 || sort == 6) && level < 3+r.Intn(20)/19:
		for i := range r.Intn(5) + r.Intn(12)/11 + r.Intn(12)/11 {
			if sort == 6 {
				v.Names = append(v.Names, string(rune('a'+i))+[]string{"", "0", "xyz"}[r.Intn(3)])
			}
			v.Kids = append(v.Kids, anyValue(r, level+1))
		}
	}
	if r.Intn(60) == 0 {
		spoil(r, &v)
	}
	return v
}

func spoil(r *rand.Rand, v *impl.Value) {
	switch r.Intn(6) {
	case 0:
		v.Sort = r.Intn(10) - 1
	case 1:
		v.Num = []int{1, -1, 2, 1000000, -1000000}[r.Intn(5)]
	case 2:
		v.Text += []string{"x", "\"", "\x7f", "12345678901234567"}[r.Intn(4)]
	case 3:
		v.Names = append(v.Names, []string{"a", "A", "", "zzzzzzz", "zzzzzzzz"}[r.Intn(5)])
	case 4:
		v.Kids = append(v.Kids, null())
	case 5:
		v.Names, v.Kids = nil, nil
	}
}
