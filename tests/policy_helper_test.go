package tests

import (
	"math/rand"
	"regexp"
	"slices"
	"strings"

	"loop.example/portreeve/impl"
)

// pol reads rules that the test knows to be some.
func pol(list ...string) []impl.Rule {
	rules, f := impl.PolParse(lines(list...))
	if f.Code != 0 {
		panic("the test is wrong: " + lines(list...))
	}
	return rules
}

// atom is an atom of a name and words, right or not, with a space between.
func atom(text string) impl.Atom {
	words := strings.Split(text, " ")
	return impl.Atom{Name: words[0], Args: words[1:]}
}

func atoms(list ...string) []impl.Atom {
	var all []impl.Atom
	for _, text := range list {
		all = append(all, atom(text))
	}
	return all
}

// rule is a rule of a head and a body, right or not; something with an exclamation mark ahead has Not.
func rule(head string, body ...string) impl.Rule {
	r := impl.Rule{Head: atom(head)}
	for _, text := range body {
		plain, not := strings.CutPrefix(text, "!")
		r.Body = append(r.Body, impl.Lit{Not: not, Atom: atom(plain)})
	}
	return r
}

func rules(list ...impl.Rule) []impl.Rule { return list }

func polFault(at, code int) impl.PolFault { return impl.PolFault{At: at, Code: code} }

func atomLine(a impl.Atom) string {
	return strings.Join(append([]string{a.Name}, a.Args...), " ")
}

// atomLines is atoms as texts, a line each.
func atomLines(list []impl.Atom) string {
	text := ""
	for _, a := range list {
		text += atomLine(a) + "\n"
	}
	return text
}

func ruleLine(r impl.Rule) string {
	text := atomLine(r.Head)
	for i, l := range r.Body {
		text += []string{" if ", " and "}[min(i, 1)] + map[bool]string{true: "not "}[l.Not] + atomLine(l.Atom)
	}
	return text
}

func ruleLines(list []impl.Rule) string {
	text := ""
	for _, r := range list {
		text += ruleLine(r) + "\n"
	}
	return text
}

func sameAtom(a, b impl.Atom) bool { return a.Name == b.Name && slices.Equal(a.Args, b.Args) }

func sameAtoms(a, b []impl.Atom) bool { return slices.EqualFunc(a, b, sameAtom) }

func sameRule(a, b impl.Rule) bool {
	return sameAtom(a.Head, b.Head) && slices.EqualFunc(a.Body, b.Body, func(x, y impl.Lit) bool { return x.Not == y.Not && sameAtom(x.Atom, y.Atom) })
}

func sameRules(a, b []impl.Rule) bool { return slices.EqualFunc(a, b, sameRule) }

var (
	nameForm     = regexp.MustCompile(`\A[a-z][a-z0-9]{0,6}\z`)
	constantForm = regexp.MustCompile(`\A[a-z0-9.-]{1,16}\z`)
	variableForm = regexp.MustCompile(`\A[A-Z][a-z0-9]{0,6}\z`)
	joinForm     = regexp.MustCompile(`\A(if|and|not)\z`)
)

func modelConstant(word string) bool {
	return constantForm.MatchString(word) && !joinForm.MatchString(word)
}

func modelAtom(a impl.Atom, variables bool) bool {
	for _, word := range a.Args {
		if !modelConstant(word) && !(variables && variableForm.MatchString(word)) {
			return false
		}
	}
	return nameForm.MatchString(a.Name) && !joinForm.MatchString(a.Name) && len(a.Args) <= 3
}

// modelRuleCode is what the document says of one rule.
func modelRuleCode(r impl.Rule) int {
	ok := modelAtom(r.Head, true) && len(r.Body) <= 4
	has := map[string]bool{}
	var asked []string
	asked = append(asked, r.Head.Args...)
	for _, l := range r.Body {
		ok = ok && modelAtom(l.Atom, true)
		for _, word := range l.Atom.Args {
			if l.Not {
				asked = append(asked, word)
			} else {
				has[word] = true
			}
		}
	}
	switch {
	case !ok:
		return 1
	case r.Head.Name == "act" || r.Head.Name == "attr":
		return 5
	}
	for _, word := range asked {
		if variableForm.MatchString(word) && !has[word] {
			return 3
		}
	}
	return 0
}

// modelHangs is which names hang on which, by one rule or by several: 1, and 2 if a not is on some way there.
func modelHangs(list []impl.Rule) map[[2]string]int {
	hangs := map[[2]string]int{}
	names := map[string]bool{}
	for _, r := range list {
		names[r.Head.Name] = true
		for _, l := range r.Body {
			names[l.Atom.Name] = true
			pair := [2]string{r.Head.Name, l.Atom.Name}
			hangs[pair] = max(hangs[pair], 1)
			if l.Not {
				hangs[pair] = 2
			}
		}
	}
	for via := range names {
		for a := range names {
			for b := range names {
				if x, y := hangs[[2]string{a, via}], hangs[[2]string{via, b}]; x > 0 && y > 0 {
					hangs[[2]string{a, b}] = max(hangs[[2]string{a, b}], x, y)
				}
			}
		}
	}
	return hangs
}

// modelPolCheck says the document's words on PolCheck; there are no levels, if a name hangs on its own contrary.
func modelPolCheck(list []impl.Rule) impl.PolFault {
	if len(list) > 10 {
		return polFault(11, 2)
	}
	for i, r := range list {
		if code := modelRuleCode(r); code != 0 {
			return polFault(i+1, code)
		}
	}
	for pair, how := range modelHangs(list) {
		if pair[0] == pair[1] && how == 2 {
			return polFault(0, 4)
		}
	}
	if len(ruleLines(list)) > 900 {
		return polFault(0, 6)
	}
	return polFault(0, 0)
}

// modelSays puts into holds what a rule says of it, all words being tried for each variable.
func modelSays(r impl.Rule, holds map[string]bool) {
	words := map[string]bool{}
	var variables []string
	for text := range holds {
		for _, word := range atom(text).Args {
			words[word] = true
		}
	}
	for _, l := range r.Body {
		for _, word := range l.Atom.Args {
			if variableForm.MatchString(word) && !slices.Contains(variables, word) {
				variables = append(variables, word)
			}
		}
	}
	put := map[string]string{}
	line := func(a impl.Atom) string {
		words := []string{a.Name}
		for _, word := range a.Args {
			if is, ok := put[word]; ok {
				word = is
			}
			words = append(words, word)
		}
		return strings.Join(words, " ")
	}
	var heads []string
	var try func(int)
	try = func(at int) {
		if at < len(variables) {
			for word := range words {
				put[variables[at]] = word
				try(at + 1)
			}
			return
		}
		for _, l := range r.Body {
			if holds[line(l.Atom)] == l.Not {
				return
			}
		}
		heads = append(heads, line(r.Head))
	}
	try(0)
	for _, head := range heads {
		holds[head] = true
	}
}

// modelPolRun says the document's words on PolRun: rules whose nots are all settled speak until nothing comes, then the next.
func modelPolRun(list []impl.Rule, facts []impl.Atom) ([]impl.Atom, bool) {
	if modelPolCheck(list).Code != 0 {
		return nil, false
	}
	holds := map[string]bool{}
	for _, a := range facts {
		if !modelAtom(a, false) {
			return nil, false
		}
		holds[atomLine(a)] = true
	}
	hangs, settled := modelHangs(list), map[string]bool{}
	for range list {
		var now []impl.Rule
		for _, r := range list {
			ready := !settled[r.Head.Name]
			for _, other := range list {
				ready = ready && (hangs[[2]string{r.Head.Name, other.Head.Name}] < 2 || settled[other.Head.Name])
			}
			if ready {
				now = append(now, r)
			}
		}
		for before := -1; before < len(holds); {
			before = len(holds)
			for _, r := range now {
				modelSays(r, holds)
			}
		}
		for _, r := range now {
			settled[r.Head.Name] = true
		}
	}
	if len(holds) > 240 {
		return nil, false
	}
	var all []impl.Atom
	for text := range holds {
		all = append(all, atom(text))
	}
	slices.SortFunc(all, modelAtomOrder)
	return all, true
}

// modelAtomOrder says the document's words on the order of atoms.
func modelAtomOrder(a, b impl.Atom) int {
	if a.Name != b.Name {
		return strings.Compare(a.Name, b.Name)
	}
	for i := range min(len(a.Args), len(b.Args)) {
		if a.Args[i] != b.Args[i] {
			return strings.Compare(a.Args[i], b.Args[i])
		}
	}
	return len(a.Args) - len(b.Args)
}

// modelFacts says the document's words on PolFacts.
func modelFacts(acts []impl.Act) []impl.Atom {
	var facts []impl.Atom
	for _, a := range acts {
		if !modelActOk(a) {
			return nil
		}
		facts = append(facts, atom("act "+[]string{"create", "update", "replace", "delete"}[a.Kind-1]+" "+a.Id))
		for i, name := range a.Attrs.Names {
			word := "other"
			switch v := a.Attrs.Kids[i]; {
			case v.Sort == 7:
				word = "unknown"
			case v.Sort < 4:
				word = modelShow(v)
			case v.Sort == 4 && modelConstant(v.Text):
				word = v.Text
			}
			if !joinForm.MatchString(name) {
				facts = append(facts, atom("attr "+a.Id+" "+name+" "+word))
			}
		}
	}
	return facts
}

// anyAtom is an atom made by chance, of words of which there are few.
func anyAtom(r *rand.Rand, words ...string) impl.Atom {
	names := []string{"p", "q", "r", "s", "deny"}
	a := impl.Atom{Name: names[r.Intn(len(names))]}
	for range r.Intn(3) {
		a.Args = append(a.Args, words[r.Intn(len(words))])
	}
	return a
}

// anyRule is a rule made by chance; what its head and its nots ask for is most often in its body.
func anyRule(r *rand.Rand, nots int) impl.Rule {
	var one impl.Rule
	words := []string{"a", "b"}
	for range r.Intn(4) {
		a := anyAtom(r, "a", "b", "X", "Y", "Z", "X", "Y")
		one.Body, words = append(one.Body, impl.Lit{Atom: a}), append(words, a.Args...)
	}
	for nots > 0 && len(one.Body) < 4 && r.Intn(2) == 0 {
		one.Body = append(one.Body, impl.Lit{Not: true, Atom: anyAtom(r, words...)})
	}
	r.Shuffle(len(one.Body), func(i, j int) { one.Body[i], one.Body[j] = one.Body[j], one.Body[i] })
	one.Head = anyAtom(r, words...)
	return one
}

// anyRules is rules made by chance that are ok.
func anyRules(r *rand.Rand, nots int) []impl.Rule {
	var list []impl.Rule
	for range r.Intn(7) {
		more := append(slices.Clone(list), anyRule(r, nots))
		if modelPolCheck(more).Code == 0 {
			list = more
		}
	}
	return list
}

func anyFacts(r *rand.Rand) []impl.Atom {
	var facts []impl.Atom
	for range r.Intn(9) {
		facts = append(facts, anyAtom(r, "a", "b", "c"))
	}
	return facts
}

// spoiltRules is rules of which one is most often not ok any more.
func spoiltRules(r *rand.Rand, list []impl.Rule) []impl.Rule {
	list = slices.Clone(list)
	if len(list) == 0 {
		return list
	}
	one := &list[r.Intn(len(list))]
	bad := []string{"if", "and", "not", "", "A", "Ab", "aB", "a b", "act", "attr", "a_", "abcdefgh", "Abcdefgh", "abcdefghijklmnopq", "Z", "a\n", "é"}[r.Intn(17)]
	switch r.Intn(6) {
	case 0:
		one.Head.Name = bad
	case 1:
		one.Head.Args = append(slices.Clone(one.Head.Args), bad)
	case 2:
		one.Body = append(slices.Clone(one.Body), impl.Lit{Not: r.Intn(2) == 0, Atom: impl.Atom{Name: bad}})
	case 3:
		one.Body = append(slices.Clone(one.Body), impl.Lit{Not: r.Intn(2) == 0, Atom: atom("p " + bad)})
	case 4:
		one.Body = append(slices.Clone(one.Body), rule("x", "p", "p X", "!q", "p").Body[:r.Intn(5)]...)
	case 5:
		list = append(list, anyRule(r, 1), anyRule(r, 1))
	}
	return list
}
