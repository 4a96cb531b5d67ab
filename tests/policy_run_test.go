package tests

import (
	"math/rand"
	"slices"
	"strconv"
	"strings"
	"testing"

	"loop.example/portreeve/impl"
)

// numbered is so many facts of one name, of one word each.
func numbered(name string, n int) []impl.Atom {
	var facts []impl.Atom
	for i := range n {
		facts = append(facts, atom(name+" n"+strconv.Itoa(1000+i)))
	}
	return facts
}

func backward[T any](list []T) []T {
	list = slices.Clone(list)
	slices.Reverse(list)
	return list
}

// What rules say of facts, by hand; facts and what holds are atoms with a comma between.
func TestPolRun(t *testing.T) {
	for i, c := range []struct{ rules, facts, want string }{
		{"", "", ""},
		{"", "p,q a", "p,q a"},
		{"p", "", "p"},
		{"p a b c\nq", "p", "p,p a b c,q"},
		// Facts that stand there twice, and what comes of several rules.
		{"p a\np a\np X if q X", "q a,p a,q a", "p a,q a"},
		// The order: by name, then word by word; fewer words first.
		{"", "p b,p,p a b c,p a c,p a b,p a,o z,pp,p a-,p a.,p 0,p b a,p1 a", "o z,p,p 0,p a,p a b,p a b c,p a c,p a-,p a.,p b,p b a,p1 a,pp"},
		// Two variables that must be one word, and two that must not.
		{"p X if q X X", "q a b,q b b,q c c", "p b,p c,q a b,q b b,q c c"},
		{"p X Y if q X and q Y and not same X Y\nsame X X if q X", "q a,q b", "p a b,p b a,q a,q b,same a a,same b b"},
		{"p X Y if q X Y", "q a a,q a b", "p a a,p a b,q a a,q a b"},
		{"p X if q X Y and q Y X", "q a b,q b a,q c d,q e e", "p a,p b,p e,q a b,q b a,q c d,q e e"},
		{"p X if q X Y and r Y", "q a b,q c d,r d,r e", "p c,q a b,q c d,r d,r e"},
		{"p X X if q X", "q a", "p a a,q a"},
		// Constants in heads and bodies.
		{"p a X if q X b", "q a b,q b b,q b c", "p a a,p a b,q a b,q b b,q b c"},
		{"p X if q X a.b-1", "q a a.b-1,q b a.b-2", "p a,q a a.b-1,q b a.b-2"},
		// Atoms of one name with other numbers of words are others.
		{"r X if p X\ns if p\nt X Y if p X Y", "p a,p b c", "p a,p b c,r a,t b c"},
		{"r X if q X and not p X", "q a,p a b,p", "p,p a b,q a,r a"},
		// A rule that needs what a later one says, on one level.
		{"a if b\nb if c\nc if d\nd if e", "e", "a,b,c,d,e"},
		{"reach X Z if reach X Y and reach Y Z\nreach X Y if link X Y", "link a b,link b c,link c d", "link a b,link b c,link c d,reach a b,reach a c,reach a d,reach b c,reach b d,reach c d"},
		{"even X if next Y X and odd1 Y\nodd1 X if next Y X and even Y\neven n0", "next n0 n1,next n1 n2,next n2 n3", "even n0,even n2,next n0 n1,next n1 n2,next n2 n3,odd1 n1,odd1 n3"},
		{"p if p", "", ""}, {"p X if q X\nq X if p X", "p a,q b", "p a,p b,q a,q b"},
		// A not over what a lower level says, whichever stands first.
		{"bad X if node X and not good X\ngood X if node X and mark X", "node a,node b,mark a", "bad b,good a,mark a,node a,node b"},
		{"far X if node X and not near X\nnear Y if near X and link X Y\nnear a", "node a,node b,node c,link a b", "far c,link a b,near a,near b,node a,node b,node c"},
		{"a if not b\nb if not c\nc if not d\nd if not e", "", "b,d"}, {"d if not e\nc if not d\nb if not c\na if not b", "e", "a,c,e"}, {"a if not b\nb if not c\nc if not d\nd if not e", "b", "b,d"},
		// Nots of what no rule says, of facts, of what must hold as well, and of several.
		{"p X if q X and not none X", "q a", "p a,q a"}, {"p X if q X and not q X", "q a", "q a"}, {"p X if q X and not r X and not s X", "q a,q b,q c,r a,s b", "p c,q a,q b,q c,r a,s b"}, {"p if not q a and not r", "q b", "p,q b"}, {"p if not q a and not r", "q a", "q a"}, {"p X if not r X and q X Y and not r Y", "q a b,q c d,r d", "p a,q a b,q c d,r d"},
		// Facts of the names of heads hold, whatever the rules say of them.
		{"p X if q X and not r X", "p z,q a,r a", "p z,q a,r a"}, {"r X if q X and not p X", "p a,q a,q b", "p a,q a,q b,r b"}, {"deny X if act K X", "act create a,deny b,attr a b c", "act create a,attr a b c,deny a,deny b"},
		// A variable that is nowhere else, and bodies that have nothing to do with the head.
		{"p if q X", "q a,q b", "p,q a,q b"}, {"p X if q X and r Y Z", "q a,q b", "q a,q b"}, {"p X if q X and r Y Z", "q a,r b c,r b d", "p a,q a,r b c,r b d"}, {"p X if q X and r Y and r Z and not s Y Z", "q a,r b,s b b", "q a,r b,s b b"}, {"p X if q X and r Y and r Z and not s Y Z", "q a,r b,r c,s b b", "p a,q a,r b,r c,s b b"},
		{"p X Y Z if q X and q Y and q Z", "q a,q b", "p a a a,p a a b,p a b a,p a b b,p b a a,p b a b,p b b a,p b b b,q a,q b"},
	} {
		var facts, want []impl.Atom
		if c.facts != "" {
			facts = atoms(strings.Split(c.facts, ",")...)
		}
		if c.want != "" {
			want = atoms(strings.Split(c.want, ",")...)
		}
		list := rulesOf(c.rules)
		got, ok := impl.PolRun(list, facts)
		if !ok || !sameAtoms(got, want) {
			t.Errorf("case %d: %q of %q: %q, %v", i, c.rules, c.facts, atomLines(got), ok)
		}
		again, ok := impl.PolRun(backward(list), backward(facts))
		if !ok || !sameAtoms(again, want) {
			t.Errorf("case %d the other way round: %q, %v", i, atomLines(again), ok)
		}
		if model, ok := modelPolRun(list, facts); !ok || !sameAtoms(model, want) {
			t.Errorf("case %d: the model is wrong: %q", i, atomLines(model))
		}
	}
}

// rulesOf reads lines of rules, of which the last has no newline.
func rulesOf(text string) []impl.Rule {
	if text == "" {
		return nil
	}
	return pol(text)
}

func TestPolRunFalse(t *testing.T) {
	for _, bad := range []string{
		"p X", "p a X", "p Abc", "P", "P a", "if", "and a", "not", "p if", "p a and", "p a b not", "", "p ", "1p", "p.q", "abcdefgh", "p a b c d", "p " + const16 + "a", "p aB", "p a_b", "p é", "p a\n",
	} {
		for _, facts := range [][]impl.Atom{atoms(bad), atoms("p a", bad), atoms(bad, "p a")} {
			for _, list := range [][]impl.Rule{nil, pol("q X if p X")} {
				if got, ok := impl.PolRun(list, facts); ok || got != nil {
					t.Errorf("%v of %v: %v, %v", list, facts, got, ok)
				}
			}
		}
	}
	for _, good := range []string{"p", "act", "attr", "p " + const16, "p a b c", "deny", "name123 - . 0", "iff and1 nots 1if"} {
		if got, ok := impl.PolRun(nil, atoms(good)); !ok || !sameAtoms(got, atoms(good)) {
			t.Errorf("%s: %v, %v", good, got, ok)
		}
	}
	for _, list := range [][]impl.Rule{rules(rule("p X")), rules(rule("if")), rules(rule("act")), rules(rule("p", "!p")), longRules(901), slices.Repeat(rules(rule("a")), 11)} {
		if got, ok := impl.PolRun(list, atoms("p a")); ok || got != nil {
			t.Errorf("%v: %v, %v", list, got, ok)
		}
	}
}

// As many as may hold, and one more.
func TestPolTooMuch(t *testing.T) {
	twice := append(numbered("p", 240), numbered("p", 240)...)
	for i, c := range []struct {
		rules string
		facts []impl.Atom
		many  int
	}{
		{"", numbered("p", 240), 240}, {"", numbered("p", 241), 0}, {"", numbered("p", 5000), 0}, {"", twice, 240}, {"", append(twice, atom("q")), 0}, {"p n1000", numbered("p", 240), 240}, {"p n1240", numbered("p", 240), 0}, {"q", numbered("p", 239), 240}, {"q", numbered("p", 240), 0},
		{"q X if p X", numbered("p", 120), 240}, {"q X if p X", numbered("p", 121), 0}, {"q X if p X\nr", numbered("p", 120), 0}, {"q X if p X\nr if not none", numbered("p", 120), 0}, {"q X if p X\nr if none", numbered("p", 120), 240},
		{"q X Y if p X and p Y", numbered("p", 15), 240}, {"q X Y if p X and p Y", numbered("p", 16), 0}, {"q X Y Z if p X and p Y and p Z", numbered("p", 6), 222}, {"q X Y Z if p X and p Y and p Z", numbered("p", 7), 0},
		// Of what a lower level says too much nothing is taken back by a higher one.
		{"q X if p X\np X if q X", numbered("p", 120), 240}, {"r X if p X and not q X\nq X if p X", numbered("p", 120), 240}, {"r X if p X and not q X\nq X if p X", numbered("p", 121), 0},
		// Many ways to say the same.
		{"q if p A and p B and p C and p D", numbered("p", 239), 240}, {"q if p A and p B and p C and p D", numbered("p", 240), 0}, {"q if p A and p B and p C and none D", numbered("p", 240), 240}, {"q if p A and p B and p C and not p A", numbered("p", 240), 240}, {"q A if p A and p B and p C and p D", numbered("p", 120), 240}, {"q A A A if p A and p B and p C and not none A B C", numbered("p", 120), 240},
	} {
		got, ok := impl.PolRun(rulesOf(c.rules), c.facts)
		if ok != (c.many > 0) || len(got) != c.many {
			t.Errorf("case %d: %q: %d, %v", i, c.rules, len(got), ok)
		}
	}
	// A fact that is none, behind too many.
	if got, ok := impl.PolRun(nil, append(numbered("p", 241), atom("if"))); ok || got != nil {
		t.Error(got, ok)
	}
}

// Rules whose words can be put in very many ways, most of them in vain, still come to an end soon.
func TestPolManyWays(t *testing.T) {
	var pairs, shifted, one []impl.Atom
	for i := range 119 {
		n, next := strconv.Itoa(i), strconv.Itoa((i+1)%119)
		pairs = append(pairs, atom("p u"+n+" x"+n), atom("s x"+n+" x"+next+" zz"))
		shifted = append(shifted, atom("p x"+n+" y"+next))
		one = append(one, atom("p a x"+n), atom("p a y"+n))
	}
	for _, c := range []struct {
		text  string
		facts []impl.Atom
		many  int
	}{
		{"q U V W if p U X and p V Y and p W Z and s X Y Z", pairs, 0}, {"q U V W if p U X and p V Y and p W Z and not s X Y Z", one, 1}, {"q U U if p U X and p V Y and p W Z and p X V", one, 0}, {"q if p A B and p B C and p C D and p D A", shifted, 0}, {"q A B if p B A and p C D and p E F and not p C F", one, 0}, {"q A B if p B A and p C D and p E F and not p F C", one, 238}, {"q C if p A B and p D E and p F C and p B D", shifted, 0},
	} {
		list := slices.Repeat(pol(c.text), 10)
		got, ok := impl.PolRun(list, c.facts)
		if ok != (len(c.facts)+c.many <= 240) || ok && len(got) != len(c.facts)+c.many {
			t.Errorf("%q: %d, %v", c.text, len(got), ok)
		}
	}
}

// P27, P28, P29 and P69, over rules and facts made by chance.
func TestPolPromises(t *testing.T) {
	r := rand.New(rand.NewSource(27))
	derived, nots := 0, 0
	for i := range 4000 {
		list, facts := anyRules(r, i%2), anyFacts(r)
		got, ok := impl.PolRun(list, facts)
		want, fine := modelPolRun(list, facts)
		if ok != fine || !sameAtoms(got, want) {
			t.Fatalf("%q of %q: %q, not %q", ruleLines(list), atomLines(facts), atomLines(got), atomLines(want))
		}
		if !ok {
			continue
		}
		if again, ok := impl.PolRun(list, got); !ok || !sameAtoms(again, got) {
			t.Fatalf("%q of %q: %q, then %q", ruleLines(list), atomLines(facts), atomLines(got), atomLines(again))
		}
		if round, ok := impl.PolRun(backward(list), backward(facts)); !ok || !sameAtoms(round, got) {
			t.Fatalf("%q of %q: %q, the other way round %q", ruleLines(list), atomLines(facts), atomLines(got), atomLines(round))
		}
		alone, ok := impl.PolRun(nil, facts)
		sorted := slices.Clone(facts)
		slices.SortFunc(sorted, modelAtomOrder)
		if sorted = slices.CompactFunc(sorted, sameAtom); !ok || !sameAtoms(alone, sorted) {
			t.Fatalf("no rules of %q: %q", atomLines(facts), atomLines(alone))
		}
		if len(got) > len(alone) {
			derived++
		}
		if strings.Contains(ruleLines(list), "not ") {
			nots++
			continue
		}
		some := slices.DeleteFunc(slices.Clone(facts), func(impl.Atom) bool { return r.Intn(3) == 0 })
		less, ok := impl.PolRun(list, some)
		if !ok || slices.ContainsFunc(less, func(a impl.Atom) bool {
			return !slices.ContainsFunc(got, func(b impl.Atom) bool { return sameAtom(a, b) })
		}) {
			t.Fatalf("%q of %q: %q, but of some %q", ruleLines(list), atomLines(facts), atomLines(got), atomLines(less))
		}
	}
	if derived < 1000 || nots < 500 {
		t.Errorf("%d with more than facts, %d with not", derived, nots)
	}
}

func TestPolFacts(t *testing.T) {
	for _, c := range []struct {
		acts []impl.Act
		want []impl.Atom
	}{
		{nil, nil}, {[]impl.Act{}, nil},
		{plan("create vm.a {}", "update vm.b {} c.d", "replace vm.c {}", "delete vm.d"), atoms("act create vm.a", "act update vm.b", "act replace vm.c", "act delete vm.d")},
		{plan("create a.b {a:null,b:true,c:false,d:7,e:?}"), atoms("act create a.b", "attr a.b a null", "attr a.b b true", "attr a.b c false", "attr a.b d 7", "attr a.b e unknown")},
		{plan("update a.b {a:-999999,b:999999,c:0,d:-2}"), atoms("act update a.b", "attr a.b a -999999", "attr a.b b 999999", "attr a.b c 0", "attr a.b d -2")},
		{plan(`replace a.b {a:"eu",b:"` + const16 + `",c:"",d:"a b",e:"Eu"}`), atoms("act replace a.b", "attr a.b a eu", "attr a.b b "+const16, "attr a.b c other", "attr a.b d other", "attr a.b e other")},
		{plan(`create a.b {a:"if",b:"and",c:"not",d:"iff",e:"X"}`), atoms("act create a.b", "attr a.b a other", "attr a.b b other", "attr a.b c other", "attr a.b d iff", "attr a.b e other")},
		{plan(`create a.b {a:"null",b:"unknown",c:"other",d:"-",e:"vm.a"}`), atoms("act create a.b", "attr a.b a null", "attr a.b b unknown", "attr a.b c other", "attr a.b d -", "attr a.b e vm.a")},
		{plan(`create a.b {a:[],b:{},c:[1],d:{e:?},e:"a_b"}`), atoms("act create a.b", "attr a.b a other", "attr a.b b other", "attr a.b c other", "attr a.b d other", "attr a.b e other")},
		{plan(`create a.b {and:1,if:2,not:?,nots:4,zone:"eu"}`), atoms("act create a.b", "attr a.b nots 4", "attr a.b zone eu")},
		{plan(`create if.and {not:1}`, `update not.if {a:1}`, "delete act.if"), atoms("act create if.and", "act update not.if", "attr not.if a 1", "act delete act.if")},
		{plan("create abcdefg.abcdefg {abcdefg:1}"), atoms("act create abcdefg.abcdefg", "attr abcdefg.abcdefg abcdefg 1")},
		{plan("delete a.b", "delete a.b", "create a.b {a:1}", "create a.b {a:1}"), atoms("act delete a.b", "act delete a.b", "act create a.b", "attr a.b a 1", "act create a.b", "attr a.b a 1")},
	} {
		if got := impl.PolFacts(c.acts); !sameAtoms(got, c.want) {
			t.Errorf("%v: %q", c.acts, atomLines(got))
		}
		if got := modelFacts(c.acts); !sameAtoms(got, c.want) {
			t.Errorf("%v: the model is wrong: %q", c.acts, atomLines(got))
		}
	}
	for _, bad := range badActs() {
		for _, acts := range [][]impl.Act{{bad}, {act("delete a.b"), bad}, {bad, act("delete a.b")}} {
			if got := impl.PolFacts(acts); got != nil {
				t.Errorf("%v: %v", acts, got)
			}
			if got, ok := impl.PolDenies(pol("deny a"), acts); ok || got != nil {
				t.Errorf("%v: %v, %v", acts, got, ok)
			}
		}
	}
	many := slices.Repeat(plan(`create a.b {a:1,b:2}`), 500)
	if got := impl.PolFacts(many); len(got) != 1500 {
		t.Error(len(got), "facts")
	}
}

// deletions is acts that delete so many things.
func deletions(n int) []impl.Act {
	var acts []impl.Act
	for i := range n {
		acts = append(acts, impl.Act{Kind: impl.ActDelete, Id: "a.n" + strconv.Itoa(100+i), Attrs: object("")})
	}
	return acts
}

// P30 and P69, by hand.
func TestPolDenies(t *testing.T) {
	acts := plan(`create vm.a {link:"vm.b",zone:"us"}`, `create vm.b {size:-2,zone:?}`, "delete ip.c", "delete ip.c")
	for _, c := range []struct {
		rules string
		acts  []impl.Act
		want  string
	}{
		{"", acts, ""}, {"", nil, ""}, {"", deletions(240), ""}, {"deny X if act delete X", nil, ""}, {"deny X if act delete X", acts, "ip.c"}, {"deny X if act K X", acts, "ip.c vm.a vm.b"},
		// deny of no word and of two denies nothing; nor does any other name.
		{"deny", acts, ""}, {"deny X Y if act X Y", acts, ""}, {"deny X Y Z if attr X Y Z", acts, ""}, {"denied X if act K X", acts, ""}, {"deny\ndeny a b\ndeny c", acts, "c"}, {"deny a b\ndeny a\ndeny\ndeny a a b", acts, "a"},
		// Words that are no things are denied as well, and without acts.
		{"deny a", nil, "a"}, {"deny b\ndeny a\ndeny b\ndeny a.b", nil, "a a.b b"}, {"deny Z if attr X zone Z", acts, "unknown us"}, {"deny N if attr X N V", acts, "link size zone"}, {"deny V if attr X size V", acts, "-2"},
		// Each once, though by several rules.
		{"deny X if act delete X\ndeny X if act K X and not none X\ndeny vm.a", acts, "ip.c vm.a vm.b"},
		{"deny X if act create X and not ok X\nok X if attr X zone us", acts, "vm.b"}, {"deny X if reach X vm.b\nreach X Y if attr X link Y", acts, "vm.a"},
	} {
		got, ok := impl.PolDenies(rulesOf(c.rules), c.acts)
		if !ok || strings.Join(got, " ") != c.want {
			t.Errorf("%q: %v, %v", c.rules, got, ok)
		}
	}
	long := slices.Repeat(plan(`create abcdefg.abcdefg {a:"0123456789abcdef"}`), 87)
	for i, c := range []struct {
		rules []impl.Rule
		acts  []impl.Act
	}{
		{rules(rule("deny X")), nil}, {rules(rule("deny X")), acts}, {rules(rule("odd", "!odd")), acts}, {nil, deletions(241)}, {pol("deny a"), deletions(240)}, {nil, long}, {nil, slices.Repeat(acts, 60)}, {nil, []impl.Act{{}}}, {nil, deletions(100000)}, {longRules(901), nil},
	} {
		if got, ok := impl.PolDenies(c.rules, c.acts); ok || got != nil {
			t.Errorf("case %d: %v, %v", i, got, ok)
		}
	}
	if got, ok := impl.PolDenies(nil, long[1:]); !ok || got != nil {
		t.Error(got, ok)
	}
}

// P30, P69 and P70, over rules and plans made by chance.
func TestPolDeniesByChance(t *testing.T) {
	r := rand.New(rand.NewSource(30))
	ask := pol("deny X if act delete X", "deny X if act create X and not ok X", "ok X if attr X zone Z", "deny V if attr X size V", "deny", "deny X Y if attr X Y unknown", "p X if act K X and attr X link Y", "deny X if p X and not q X", "q X if act update X", "deny vm.a if act replace Y")
	deleted, denied := 0, 0
	for range 1500 {
		list, state := anyPair(r)
		acts, f := impl.PlanMake(list, nil, state)
		if f.Code != 0 {
			continue
		}
		facts := impl.PolFacts(acts)
		if !sameAtoms(facts, modelFacts(acts)) {
			t.Fatalf("%q: %q", planText(acts), atomLines(facts))
		}
		some := slices.DeleteFunc(slices.Clone(ask), func(impl.Rule) bool { return r.Intn(2) == 0 })
		got, ok := impl.PolDenies(some, acts)
		all, _ := modelPolRun(some, facts)
		var want []string
		for _, a := range all {
			if a.Name == "deny" && len(a.Args) == 1 {
				want = append(want, a.Args[0])
			}
		}
		if !ok || !slices.Equal(got, want) {
			t.Fatalf("%q of %q: %v, not %v", ruleLines(some), planText(acts), got, want)
		}
		denied += len(got)
		if got, ok := impl.PolDenies(nil, acts); !ok || got != nil {
			t.Fatalf("no rules of %q: %v, %v", planText(acts), got, ok)
		}
		var gone []string
		for _, a := range acts {
			if a.Kind == impl.ActDelete {
				gone = append(gone, a.Id)
			}
		}
		slices.Sort(gone)
		if got, ok := impl.PolDenies(ask[:1], acts); !ok || !slices.Equal(got, gone) {
			t.Fatalf("deletions of %q: %v, %v", planText(acts), got, ok)
		}
		deleted += len(gone)
	}
	if deleted < 100 || denied < 500 {
		t.Errorf("%d deleted, %d denied", deleted, denied)
	}
}
