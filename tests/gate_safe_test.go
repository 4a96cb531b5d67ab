package tests

import (
	"slices"
	"testing"

	"loop.example/portreeve/impl"
)

// spoiltCall is what is done to a call of city, by its key, and whether all is safe then.
type spoiltCall struct {
	what string
	key  string
	safe bool
	do   func(c *impl.Call)
}

// spoiltKeys is other keys of a call; each gate is ok still, as its calls are put in order.
func spoiltKeys() []spoiltCall {
	var all []spoiltCall
	for _, key := range []string{
		"x", "acme", "acme/prod/1", "acme/prod/1/", "acme/prod/1/3", "acme/prod/1/-1", "acme/prod/1/00", "acme/prod/1/+0", "acme/prod/1/0/", "acme/prod/1/0/0", "/acme/prod/1/0", "acme/prod/1/0 ", "acme/prod/01/0", "acme/prod/0/0", "acme/prod/-1/0", "acme/prod//0", "acme/prod/4/0", "acme/prod/9/0", "acme/prod/3/0", "acme/prod/1/99999999999999999999", "acme/prod/18446744073709551617/0",
		"acme/dev/1/0", "acme/none/1/0", "acme//1/0", "none/prod/1/0", "//1/0", "Acme/prod/1/0", "acme\\prod\\1\\0",
	} {
		all = append(all, spoiltCall{"the key " + key, "acme/prod/1/0", false, func(c *impl.Call) { c.Key = key }})
	}
	return all
}

// spoiltTexts is other texts of a call by which vm.a was updated, and its other parts.
func spoiltTexts() []spoiltCall {
	all := []spoiltCall{
		{"all as it was", "acme/prod/2/1", true, func(c *impl.Call) {}},
		{"another kind", "acme/prod/2/1", false, func(c *impl.Call) { c.Kind = impl.ActCreate }},
		{"another id", "acme/prod/2/1", false, func(c *impl.Call) { c.Id = "vm.z" }},
		{"another kind, and a text of it", "acme/prod/2/1", false, func(c *impl.Call) { c.Kind, c.Text = impl.ActReplace, "replace"+c.Text[len("update"):] }},
		{"the text of an act that is not known", "acme/prod/1/2", false, func(c *impl.Call) { c.Text = "create vm.b {link:?} vm.a\n" }},
		{"another link", "acme/prod/1/2", true, func(c *impl.Call) { c.Text = "create vm.b {link:\"any\"} vm.a\n" }},
		{"a link of another sort", "acme/prod/1/2", true, func(c *impl.Call) { c.Text = "create vm.b {link:{a:1}} vm.a\n" }},
		{"a link that is not known within", "acme/prod/1/2", false, func(c *impl.Call) { c.Text = "create vm.b {link:[?]} vm.a\n" }},
		{"an update with another link, which the plan did not know", "acme/prod/2/1", true, func(c *impl.Call) { c.Text = "update vm.a {link:null,size:2} net.b\n" }},
		{"a deletion", "beta/prod/2/2", true, func(c *impl.Call) {}},
		{"a deletion with attributes", "beta/prod/2/2", false, func(c *impl.Call) { c.Text = "delete vm.b {}\n" }},
		{"a deletion of another thing", "beta/prod/2/2", false, func(c *impl.Call) { c.Text = "delete vm.a\n" }},
	}
	for _, text := range []string{
		"", "\n", "update vm.a", "update vm.a {link:\"i-e56a40\",size:2} net.b", "update vm.a {link:\"i-e56a40\",size:2} net.b\n\n", "\nupdate vm.a {link:\"i-e56a40\",size:2} net.b\n", " update vm.a {link:\"i-e56a40\",size:2} net.b\n", "update vm.a {link:\"i-e56a40\",size:2} net.b \n", "update vm.a  {link:\"i-e56a40\",size:2} net.b\n",
		"update vm.a {link:\"i-e56a40\",size:2} net.b\nupdate vm.a {link:\"i-e56a40\",size:2} net.b\n", "update vm.a {link:\"i-e56a40\",size:2} net.b\ndelete vm.a\n", "delete vm.z\nupdate vm.a {link:\"i-e56a40\",size:2} net.b\n",
		"update vm.a {link:\"i-e56a40\",size:3} net.b\n", "update vm.a {link:\"i-e56a40\",size:?} net.b\n", "update vm.a {link:\"i-e56a40\"} net.b\n", "update vm.a {link:\"i-e56a40\",more:1,size:2} net.b\n", "update vm.a {id:\"x\",link:\"i-e56a40\",size:2} net.b\n", "update vm.a {}\n",
		"update vm.a {link:\"i-e56a40\",size:2}\n", "update vm.a {link:\"i-e56a40\",size:2} net.c\n", "update vm.a {link:\"i-e56a40\",size:2} net.b net.c\n", "update vm.b {link:\"i-e56a40\",size:2} net.b\n", "create vm.a {link:\"i-e56a40\",size:2} net.b\n", "delete vm.a\n", "what", "Update vm.a {link:\"i-e56a40\",size:2} net.b\n",
	} {
		all = append(all, spoiltCall{"the text " + text, "acme/prod/2/1", false, func(c *impl.Call) { c.Text = text }})
	}
	return all
}

// spoiltCaps is other credentials of a call; one of them has a right seal, and is not the run's.
func spoiltCaps() []spoiltCall {
	again := func(change func(c *impl.Cap)) func(c *impl.Call) {
		return func(c *impl.Call) { change(&c.Cap); c.Cap.Seal = modelSeal(someKey, c.Cap) }
	}
	var all []spoiltCall
	for what, change := range capChanges() {
		if what == "from behind until" || what == "no tenant" || what == "a limit that is none" || what == "limits too many" { // not ok
			continue
		}
		all = append(all, spoiltCall{"a credential: " + what, "acme/prod/2/1", false, func(c *impl.Call) { change(&c.Cap) }})
		if what != "seal" {
			all = append(all, spoiltCall{"a credential, sealed anew: " + what, "acme/prod/2/1", false, again(change)})
		}
	}
	return append(all,
		spoiltCall{"a credential, sealed anew", "acme/prod/2/1", true, again(func(c *impl.Cap) {})},
		spoiltCall{"a credential of nobody", "acme/prod/2/1", false, func(c *impl.Call) { c.Cap = grant() }})
}

// downed is a gate after its power failed, with nothing of a record.
func downed(t *testing.T, s impl.Gate) impl.Gate {
	t.Helper()
	return plays(t, s, "cut 1 0 "+tick)
}

// P55, P80: GateSafe of a gate that is ok, with a call in Cloud that is just of an act, or that is not; up, and down.
func TestGateSafe(t *testing.T) {
	base := city(t)
	for _, from := range []impl.Gate{base, downed(t, base), dark(t)} {
		for _, x := range slices.Concat(spoiltKeys(), spoiltTexts(), spoiltCaps()) {
			s := altered(from, func(s *impl.Gate) { putCall(t, s, x.key, x.do) })
			if !impl.GateOk(s) || impl.GateSafe(s) != x.safe || modelGateSafe(s) != x.safe {
				t.Errorf("up %v: %s: safe %v, not %v, by the model %v", s.Up, x.what, impl.GateSafe(s), x.safe, modelGateSafe(s))
			}
		}
		for i := range from.Cloud {
			if s := altered(from, func(s *impl.Gate) { s.Cloud = slices.Delete(s.Cloud, i, i+1) }); !impl.GateSafe(s) {
				t.Errorf("not safe without %s", from.Cloud[i].Key)
			}
		}
	}
}

// putCall changes a call of a gate, and puts all in order.
func putCall(t *testing.T, s *impl.Gate, key string, do func(c *impl.Call)) {
	t.Helper()
	at := slices.IndexFunc(s.Cloud, func(c impl.Call) bool { return c.Key == key })
	if at < 0 {
		t.Fatalf("no call %s", key)
	}
	one := s.Cloud[at]
	do(&one)
	s.Cloud = slices.DeleteFunc(s.Cloud, func(c impl.Call) bool { return c.Key == key || c.Key == one.Key })
	at, _ = slices.BinarySearchFunc(s.Cloud, one.Key, func(c impl.Call, key string) int {
		if c.Key < key {
			return -1
		}
		return 1
	})
	s.Cloud = slices.Insert(s.Cloud, at, one)
}

// P55: a call may be in the world just up to the place to which its run has come, whether it was asked for there yet or not.
func TestGateSafePlace(t *testing.T) {
	all := waiting(t)
	granted := plays(t, all, "approve acme cy prod 1 0 D", step)
	done := plays(t, granted, slices.Repeat([]string{step}, 6)...)
	if len(done.Cloud) != 3 {
		t.Fatal("no calls")
	}
	s := granted
	for n := range 7 {
		at := n / 2
		if got := run(&s.House, 1).At; got != at {
			t.Fatalf("at %d, not %d", got, at)
		}
		for place, c := range done.Cloud {
			one := altered(s, func(s *impl.Gate) { s.Cloud = []impl.Call{c} })
			if want := place <= at; impl.GateSafe(one) != want || modelGateSafe(one) != want || impl.GateSafe(unhoused(one)) != want {
				t.Errorf("behind %d steps, place %d: safe %v", n, place, impl.GateSafe(one))
			}
		}
		if n < 6 {
			s = plays(t, s, step)
		}
	}
	none := altered(all, func(s *impl.Gate) { s.Cloud = done.Cloud[:1] })
	if !impl.GateOk(none) || impl.GateSafe(none) || impl.GateSafe(unhoused(none)) {
		t.Error("a call of a run that waits, which has no credential, is safe")
	}
	cut := plays(t, granted, "cancel acme bob prod 1 0 ")
	for place, c := range done.Cloud {
		if one := altered(cut, func(s *impl.Gate) { s.Cloud = []impl.Call{c} }); impl.GateSafe(one) != (place == 0) || modelGateSafe(one) != (place == 0) {
			t.Errorf("a run that was cancelled, place %d: %v", place, impl.GateSafe(one))
		}
	}
}

// unhoused is a gate without its house, whatever its calls are.
func unhoused(s impl.Gate) impl.Gate {
	return altered(s, func(s *impl.Gate) { s.House, s.Up = impl.HouseNew(s.House.Key), false })
}

// P55: a gate that is not ok is not safe, a run with fewer approvals than it needs among them.
func TestGateSafeApprovals(t *testing.T) {
	base := asking(t)
	for what, do := range map[string]func(s *impl.Gate){
		"no approvals":    func(s *impl.Gate) { run(&s.House, 1).Approvals = nil },
		"a greater need":  func(s *impl.Gate) { prod(&s.House).Need = 2 },
		"without records": func(s *impl.Gate) { s.Tape.Safe = nil },
		"loose":           func(s *impl.Gate) { s.Tape.Loose = pieces(tick) },
	} {
		if s := altered(base, do); impl.GateSafe(s) || impl.GateOk(s) {
			t.Errorf("%s: safe", what)
		}
	}
	other := altered(unhoused(lost(t)), func(s *impl.Gate) { s.House.Key += "x" })
	if !impl.GateOk(other) || impl.GateSafe(other) {
		t.Error("by another key the run has another credential")
	}
	fewer := altered(unhoused(lost(t)), func(s *impl.Gate) {
		s.Tape.Safe = slices.DeleteFunc(s.Tape.Safe, func(p string) bool { return len(p) > 80 && p[len("r 90 00000000\n"):][:7] == "approve" })
	})
	if !impl.GateOk(fewer) || impl.GateSafe(fewer) || len(fewer.Tape.Safe) != len(lost(t).Tape.Safe)-1 {
		t.Error("a run that nobody approved has a call in the world")
	}
	for _, s := range []impl.Gate{impl.GateNew(""), impl.GateNew(someKey), {}} {
		if !impl.GateSafe(s) {
			t.Errorf("%+v is not safe", s)
		}
	}
}
