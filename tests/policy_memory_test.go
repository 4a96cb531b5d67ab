package tests

import (
	"slices"
	"strings"
	"testing"

	"loop.example/portreeve/impl"
)

// own is a text in memory of its own.
func own(text string) string { return strings.Clone(text) }

// ownAtom is an atom in memory of its own, with something behind the end of its list.
func ownAtom(a impl.Atom) impl.Atom {
	args := make([]string, 0, len(a.Args)+1)
	for _, word := range a.Args {
		args = append(args, own(word))
	}
	args[:len(args)+1][len(args)] = "behind"
	return impl.Atom{Name: own(a.Name), Args: args}
}

func ownAtoms(list []impl.Atom) []impl.Atom {
	all := make([]impl.Atom, 0, len(list)+1)
	for _, a := range list {
		all = append(all, ownAtom(a))
	}
	all[:len(all)+1][len(all)] = atom("behind")
	return all
}

func ownRules(list []impl.Rule) []impl.Rule {
	all := make([]impl.Rule, 0, len(list)+1)
	for _, r := range list {
		body := make([]impl.Lit, 0, len(r.Body)+1)
		for _, l := range r.Body {
			body = append(body, impl.Lit{Not: l.Not, Atom: ownAtom(l.Atom)})
		}
		body[:len(body)+1][len(body)] = impl.Lit{Atom: atom("behind")}
		all = append(all, impl.Rule{Head: ownAtom(r.Head), Body: body})
	}
	all[:len(all)+1][len(all)] = rule("behind")
	return all
}

// behind is all of a list and what stands behind its end.
func behind[T any](list []T) []T { return list[:cap(list)] }

// wholeAtoms is atoms as a text, with what stands behind the ends of lists.
func wholeAtoms(list []impl.Atom) string {
	text := ""
	for _, a := range behind(list) {
		text += a.Name + " " + strings.Join(behind(a.Args), " ") + "\n"
	}
	return text
}

func wholeRules(list []impl.Rule) string {
	text := ""
	for _, r := range behind(list) {
		text += wholeAtoms([]impl.Atom{r.Head}) + "if\n"
		for _, l := range behind(r.Body) {
			text += wholeAtoms([]impl.Atom{l.Atom})
		}
	}
	return text
}

// atomTexts is all texts of atoms.
func atomTexts(list ...impl.Atom) []string {
	var all []string
	for _, a := range list {
		all = append(append(all, a.Name), a.Args...)
	}
	return all
}

func ruleAtoms(list []impl.Rule) []impl.Atom {
	var all []impl.Atom
	for _, r := range list {
		all = append(all, r.Head)
		for _, l := range r.Body {
			all = append(all, l.Atom)
		}
	}
	return all
}

func actTexts(acts []impl.Act) []string {
	var all []string
	for _, a := range acts {
		all = append(append(all, a.Id), a.Attrs.Names...)
		for _, v := range a.Attrs.Kids {
			all = append(all, v.Text)
		}
	}
	return all
}

// apart asks that texts of an answer lie in none of an argument, nor in each other.
func apart(t *testing.T, what string, answer, given []string) {
	for i, one := range answer {
		for _, other := range slices.Concat(given, answer[:i], answer[i+1:]) {
			if shares(one, other) {
				t.Errorf("%s: %q lies within %q", what, one, other)
			}
		}
	}
}

// apartAtoms asks that what is put into the lists of some atoms, and behind their ends, is seen in no other.
func apartAtoms(t *testing.T, what string, list []impl.Atom) {
	for i := range list {
		before := atomLines(slices.Concat(list[:i], list[i+1:]))
		for k := range behind(list[i].Args) {
			behind(list[i].Args)[k] = "changed"
		}
		if atomLines(slices.Concat(list[:i], list[i+1:])) != before {
			t.Errorf("%s: lists share memory", what)
		}
	}
}

func TestPolMemory(t *testing.T) {
	list := ownRules(pol("deny X if act delete X and not ok X", "ok vm.a", "deny vm.b", "q Y X if p X Y and p Y X", "r", "s a b c"))
	facts := ownAtoms(atoms("p a b", "p b a", "act delete vm.c", "p a b", "r", "z a.b c-d e"))
	acts := plan(`create vm.a {a:1,b:"eu",c:?,d:"E U",e:null}`, "delete vm.b", "delete vm.c", `update vm.d {b:"eu"} vm.a`)
	beforeRules, beforeFacts, beforeActs := wholeRules(list), wholeAtoms(facts), planText(acts)
	given := slices.Concat(atomTexts(ruleAtoms(list)...), atomTexts(facts...), actTexts(acts))

	impl.PolCheck(list)
	text := own(impl.PolWrite(list))
	apart(t, "PolWrite", []string{impl.PolWrite(list)}, given)
	apart(t, "PolWrite of one", []string{impl.PolWrite(list[4:5])}, given)

	read, _ := impl.PolParse(text)
	apart(t, "PolParse", atomTexts(ruleAtoms(read)...), []string{text})
	apartAtoms(t, "PolParse", ruleAtoms(read))
	for i := range read {
		others := ruleLines(slices.Concat(read[:i], read[i+1:]))
		for k := range behind(read[i].Body) {
			behind(read[i].Body)[k] = impl.Lit{Atom: atom("changed")}
		}
		if ruleLines(slices.Concat(read[:i], read[i+1:])) != others {
			t.Error("PolParse: bodies share memory")
		}
	}
	again, _ := impl.PolParse(text)
	if impl.PolWrite(again) != text {
		t.Error("PolParse: two answers share memory")
	}

	told := impl.PolFacts(acts)
	apart(t, "PolFacts", atomTexts(told...), given)
	apartAtoms(t, "PolFacts", told)

	held, ok := impl.PolRun(list, facts)
	if !ok || len(held) != 11 {
		t.Errorf("PolRun: %q", atomLines(held))
	}
	apart(t, "PolRun", atomTexts(held...), given)
	apartAtoms(t, "PolRun", held)
	alone, _ := impl.PolRun(nil, facts)
	apart(t, "PolRun of no rules", atomTexts(alone...), given)
	apartAtoms(t, "PolRun of no rules", alone)

	denied, ok := impl.PolDenies(list, acts)
	if !ok || len(denied) != 2 {
		t.Error("PolDenies:", denied)
	}
	apart(t, "PolDenies", denied, given)
	for k := range behind(denied) {
		behind(denied)[k] = "changed"
	}
	if wholeRules(list) != beforeRules || wholeAtoms(facts) != beforeFacts || planText(acts) != beforeActs {
		t.Error("an argument is changed")
	}
	if held, _ := impl.PolRun(list, facts); len(held) != 11 || strings.Contains(atomLines(held), "changed") {
		t.Errorf("two answers share memory: %q", atomLines(held))
	}
}

// What is not ok does not stop the program, whatever its size.
func TestPolBig(t *testing.T) {
	big := strings.Repeat("a", 1<<20)
	wide := impl.Atom{Name: "p", Args: make([]string, 1<<16)}
	deep := impl.Rule{Head: atom("p"), Body: make([]impl.Lit, 1<<16)}
	for _, list := range [][]impl.Rule{rules(rule(big)), rules(rule("p " + big)), rules(rule("p A" + big)), rules(impl.Rule{Head: wide}), rules(deep), rules(impl.Rule{Head: atom("p"), Body: []impl.Lit{{Atom: wide}}})} {
		if f := impl.PolCheck(list); f != polFault(1, 1) {
			t.Error(f)
		}
	}
	if f := impl.PolCheck(make([]impl.Rule, 1<<16)); f != polFault(11, 2) {
		t.Error(f)
	}
	if _, f := impl.PolParse(big); f != polFault(0, 6) {
		t.Error(f)
	}
	for _, facts := range [][]impl.Atom{{wide}, {atom(big)}, make([]impl.Atom, 1<<16), slices.Repeat(atoms("p a", "q b"), 1<<16)[:1<<17-1]} {
		if got, ok := impl.PolRun(nil, facts); ok != (facts[0].Name == "p" && len(facts[0].Args) == 1) || ok && len(got) != 2 {
			t.Error(len(got), ok)
		}
	}
}
