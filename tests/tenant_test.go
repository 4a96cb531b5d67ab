package tests

import (
	"math/rand"
	"slices"
	"strings"
	"testing"

	"loop.example/portreeve/impl"
)

var roles = []string{"approve", "owner", "plan", "write"}

// user is somebody with roles, told by a line.
func user(line string) impl.User {
	words := strings.Split(line, " ")
	return impl.User{Name: words[0], Roles: words[1:]}
}

func users(list ...string) []impl.User {
	var all []impl.User
	for _, line := range list {
		all = append(all, user(line))
	}
	return all
}

// P43: each set of roles, of somebody among others.
func TestTenantMay(t *testing.T) {
	for set := range 16 {
		line := "bob"
		for i, role := range roles {
			if set>>i&1 == 1 {
				line += " " + role
			}
		}
		all := users("ann approve owner plan write", line, "cy")
		if !impl.UsersOk(all) {
			t.Fatal(all)
		}
		for i, role := range roles {
			if impl.TenantMay(all, "bob", role) != (set>>i&1 == 1) || !impl.TenantMay(all, "ann", role) || impl.TenantMay(all, "cy", role) {
				t.Errorf("%s: %s", line, role)
			}
			for _, name := range []string{"", "bo", "bobs", "dan", "Bob", "b", "zoe", "bob ", "ann bob", line} {
				if name != "bob" && impl.TenantMay(all, name, role) {
					t.Errorf("%q is %s", name, role)
				}
			}
		}
		for _, role := range []string{"", "king", "own", "owners", "Owner", " owner", "owner ", "approve owner", "bob", "a", "-"} {
			for _, name := range []string{"ann", "bob", "cy", ""} {
				if impl.TenantMay(all, name, role) {
					t.Errorf("%s is %q", name, role)
				}
			}
		}
	}
}

// userEdges is lists of users, and whether each is ok.
func userEdges() []struct {
	list []impl.User
	ok   bool
} {
	type edge = struct {
		list []impl.User
		ok   bool
	}
	edges := []edge{
		{nil, true}, {[]impl.User{}, true}, {users("ann"), true}, {users("ann owner"), true}, {users("ann approve owner plan write"), true}, {users("a write", "a1 write", "ab write", "b write"), true}, {users("abcdefg owner", "b234567"), true},
		{users("a", "b", "c", "d", "ann owner"), false}, {users("ann owner", "b", "c", "d", "e"), true}, {users("ann owner", "b", "c", "d", "e", "f"), false}, {make([]impl.User, 6), false}, {make([]impl.User, 1<<16), false},
		{users("ann owner", "ann owner"), false}, {users("ann owner", "ann"), false}, {users("ann owner", "bob", "bob plan"), false}, {users("bob", "ann owner"), false}, {users("ab", "a", "ann owner"), false}, {users("ann owner", "cy", "bob"), false},
		{[]impl.User{{Name: "ann", Roles: slices.Repeat([]string{"owner"}, 1<<16)}}, false},
	}
	for _, name := range []string{"", "-", "Bob", "1b", "b-b", "b b", "bbbbbbbb", "b\n", "é", strings.Repeat("b", 1<<16)} {
		edges = append(edges, edge{append(users("ann owner"), impl.User{Name: name}), false}, edge{[]impl.User{{Name: name, Roles: []string{"owner"}}}, false})
	}
	for _, line := range []string{"owner owner", "plan owner", "write approve", "approve plan owner", "approve owner plan write write", "write plan owner approve", "king", "owner king", "", "owner ", " owner", "Owner", "own", "owners", "owner,plan", "step", "approve ", "approve owner plan write zoo"} {
		edges = append(edges, edge{users("ann owner", "bob "+line), false}, edge{users("ann owner", "bob "+line, "cy"), false})
	}
	return edges
}

// P43: of users that are not ok nobody has a role.
func TestUsersOk(t *testing.T) {
	for i, x := range userEdges() {
		if impl.UsersOk(x.list) != x.ok {
			t.Errorf("case %d: UsersOk is not %v", i, x.ok)
		}
		for _, u := range x.list[:min(len(x.list), 10)] {
			for _, role := range slices.Concat(roles, u.Roles[:min(len(u.Roles), 10)]) {
				want := x.ok && slices.Contains(u.Roles, role)
				if impl.TenantMay(x.list, u.Name, role) != want {
					t.Errorf("case %d: %.20q is not %v %q", i, u.Name, want, role)
				}
			}
		}
	}
}

// goodReqs is requests of each kind.
func goodReqs() []impl.Req {
	var all []impl.Req
	for kind := 1; kind <= 10; kind++ {
		all = append(all,
			impl.Req{Kind: kind}, impl.Req{Kind: kind, Tenant: "acme", User: "bob", Space: "prod", Run: 1, Num: 110, Text: "x"}, impl.Req{Kind: kind, Tenant: "a", User: "abcdefg", Space: "a234567", Run: 9999, Num: 999999, Text: strings.Repeat("~", 1200)},
			impl.Req{Kind: kind, User: "bob"}, impl.Req{Kind: kind, Tenant: "acme", Space: "prod"}, impl.Req{Kind: kind, Tenant: "tick", User: "step", Space: "plan", Text: "plan acme bob prod 0 0 "},
		)
	}
	for _, text := range []string{"", " ", "  ", "\n", " x", "x ", "x  y", "-", "0", "0 0 ", "a\nb\n", "\n\n ", " \n", " ~", strings.Repeat(" ", 1200), strings.Repeat("\n", 1200), "thing net.b\n  zone \"eu\"\nend\n"} {
		all = append(all, impl.Req{Kind: impl.ReqConf, Tenant: "acme", User: "bob", Space: "prod", Text: text}, impl.Req{Kind: impl.ReqTick, Run: 10, Num: 100, Text: text})
	}
	return all
}

// badReqs is what is no request, all else but the one thing being right.
func badReqs() []impl.Req {
	var all []impl.Req
	for _, change := range []func(r *impl.Req, text string){
		func(r *impl.Req, text string) { r.Tenant = text },
		func(r *impl.Req, text string) { r.User = text },
		func(r *impl.Req, text string) { r.Space = text },
	} {
		for _, text := range []string{" ", "-", "Acme", "1a", "abcdefgh", "a b", "a-b", "a\n", "é", "--", strings.Repeat("a", 1<<16)} {
			r := goodReqs()[1]
			change(&r, text)
			all = append(all, r)
		}
	}
	for _, text := range []string{"\x1f", "\x7f", "\x00", "\t", "\r\n", "a\x0bb", "é", "\x80", "\xff", "\ufffd", "x\u2028", strings.Repeat("x", 1201), strings.Repeat("é", 600), strings.Repeat("\n", 1201), strings.Repeat("x", 1<<20)} {
		all = append(all, impl.Req{Kind: impl.ReqConf, Text: text})
	}
	for _, kind := range []int{0, 11, -1, 12, 100, -1 << 63, 1<<63 - 1} {
		all = append(all, impl.Req{Kind: kind}, impl.Req{Kind: kind, Tenant: "acme", User: "bob", Space: "prod", Text: "x"})
	}
	for _, run := range []int{-1, 10000, -1 << 63, 1<<63 - 1} {
		all = append(all, impl.Req{Kind: impl.ReqApprove, Run: run})
	}
	for _, num := range []int{-1, 1000000, -1 << 63, 1<<63 - 1} {
		all = append(all, impl.Req{Kind: impl.ReqStep, Num: num})
	}
	return all
}

// P44, of each kind.
func TestReqText(t *testing.T) {
	for _, r := range goodReqs() {
		text := impl.ReqWrite(r)
		if !impl.ReqOk(r) || text != reqText(r) {
			t.Errorf("%v is written %q", r, text)
		}
		if got, ok := impl.ReqRead(text); !ok || got != r || impl.ReqWrite(got) != text {
			t.Errorf("%q is read as %v, %v", text, got, ok)
		}
	}
	for _, r := range badReqs() {
		if impl.ReqOk(r) || impl.ReqWrite(r) != "" || modelReq(r) {
			t.Errorf("%.60v is a request", r)
		}
		if r.Kind >= 1 && r.Kind <= 10 {
			got, ok := impl.ReqRead(reqText(r))
			want, wantOk := modelReqRead(reqText(r))
			if ok != wantOk || got != want {
				t.Errorf("%.60q is read as %.60v", reqText(r), got)
			}
		}
	}
	for text, want := range map[string]impl.Req{
		"tick - - - 0 0 ":                    {Kind: impl.ReqTick},
		"tick - - - 0 0  ":                   {Kind: impl.ReqTick, Text: " "},
		"step acme - prod 0 1 ":              {Kind: impl.ReqStep, Tenant: "acme", Space: "prod", Num: 1},
		"user acme ann - 0 0 bob plan write": {Kind: impl.ReqUser, Tenant: "acme", User: "ann", Text: "bob plan write"},
		"conf a b c 9999 999999 \n\n":        {Kind: impl.ReqConf, Tenant: "a", User: "b", Space: "c", Run: 9999, Num: 999999, Text: "\n\n"},
	} {
		if got, ok := impl.ReqRead(text); !ok || got != want || impl.ReqWrite(want) != text {
			t.Errorf("%q is read as %v, %v", text, got, ok)
		}
	}
}

// P44: no other text is read.
func TestReqNoText(t *testing.T) {
	for _, none := range []string{
		"", " ", "tick", "tick ", "tick - - - 0 0", "tick - - - 0", "tick - - - 0 ", "tick - - 0 0 ", "tick - - - - 0 0 ", "tick - - -  0 0 ", "tick  - - - 0 0 ", " tick - - - 0 0 ", "tick - - - 0  0 ", "\ntick - - - 0 0 ", "tick\n- - - 0 0 ", "tick\t- - - 0 0 ", "tick - - - 0 0\n", "tick   0 0 ", "tick -  - 0 0 ", "tick  - - 0 0 ",
		"Tick - - - 0 0 ", "ticks - - - 0 0 ", "tic - - - 0 0 ", "what - - - 0 0 ", "- - - - 0 0 ", " - - - 0 0 ", "1 - - - 0 0 ", "open", "refuse - - - 0 0 ", "goes - - - 0 0 ",
		"plan Acme - - 0 0 ", "plan - Bob - 0 0 ", "plan - - Prod 0 0 ", "plan abcdefgh - - 0 0 ", "plan - 1a - 0 0 ", "plan -- - - 0 0 ", "plan -a - - 0 0 ", "plan a- - - 0 0 ", "plan a\n - - 0 0 ", "plan é - - 0 0 ", "plan \xff - - 0 0 ",
		"plan - - - 00 0 ", "plan - - - 01 0 ", "plan - - - 0 00 ", "plan - - - 0 01 ", "plan - - - -1 0 ", "plan - - - 0 -1 ", "plan - - - -0 0 ", "plan - - - 0 -0 ", "plan - - - +1 0 ", "plan - - - 0 +1 ", "plan - - - 10000 0 ", "plan - - - 0 1000000 ", "plan - - - x 0 ", "plan - - - 0 x ", "plan - - - - 0 ", "plan - - - 0 - ", "plan - - - 99999999999999999999 0 ", "plan - - - 0 99999999999999999999 ", "plan - - - 0x1 0 ", "plan - - - 1_0 0 ", "plan - - - ١ 0 ",
		"conf - - - 0 0 \x1f", "conf - - - 0 0 \x7f", "conf - - - 0 0 \t", "conf - - - 0 0 a\rb", "conf - - - 0 0 é", "conf - - - 0 0 \x00", "conf - - - 0 0 \xff", "conf - - - 0 0 " + strings.Repeat("x", 1201), "conf - - - 0 0 " + strings.Repeat(" ", 1201), strings.Repeat(" ", 1<<20), strings.Repeat("a", 1<<20), strings.Repeat("tick ", 1<<18),
	} {
		if got, ok := impl.ReqRead(none); ok || got != (impl.Req{}) {
			t.Errorf("%.60q is read as %.60v", none, got)
		}
	}
	text := "approve acme cy prod 12 345 a text"
	for n := range len(text) {
		if _, ok := impl.ReqRead(text[:n]); ok != (n >= len("approve acme cy prod 12 345 ")) {
			t.Errorf("%q: %v", text[:n], ok)
		}
	}
}

// P44, by chance, against the model.
func TestReqAny(t *testing.T) {
	r := rand.New(rand.NewSource(121))
	good, read := goodReqs(), 0
	for range 30000 {
		one := good[r.Intn(len(good))]
		one.Text = one.Text[:min(len(one.Text), 1196+r.Intn(5))] + strings.Repeat("y", r.Intn(5))
		if impl.ReqOk(one) != modelReq(one) {
			t.Errorf("%.60v: %v", one, impl.ReqOk(one))
		}
		text := reqText(one)
		if n := r.Intn(40); n < len(text) {
			text = spoilText(r, text[:n], "0123 az-\n\x7f") + text[n:]
		}
		got, ok := impl.ReqRead(text)
		want, wantOk := modelReqRead(text)
		if ok != wantOk || got != want || ok && impl.ReqWrite(got) != text {
			t.Fatalf("%q is read as %v, %v", text, got, ok)
		}
		if ok {
			read++
		}
	}
	if read < 1000 {
		t.Error(read, "read")
	}
}
