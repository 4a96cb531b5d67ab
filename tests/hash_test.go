package tests

import (
	"crypto/hmac"
	"crypto/sha256"
	"encoding/hex"
	"slices"
	"strings"
	"testing"

	"loop.example/portreeve/impl"
)

// someBytes is a text of n bytes of all kinds, another one for each n.
func someBytes(n int) string {
	list := make([]byte, n)
	for i := range list {
		list[i] = byte(i*i*7 + i*31 + n)
	}
	return string(list)
}

func wantSum(text string) string {
	sum := sha256.Sum256([]byte(text))
	return hex.EncodeToString(sum[:])
}

func wantMac(key string, text string) string {
	mac := hmac.New(sha256.New, []byte(key))
	mac.Write([]byte(text))
	return hex.EncodeToString(mac.Sum(nil))
}

// P1, at texts whose sum is printed in FIPS 180-4's examples.
func TestHashSumKnown(t *testing.T) {
	for _, c := range []struct{ text, want string }{
		{"", "e3b0c44298fc1c149afbf4c8996fb92427ae41e4649b934ca495991b7852b855"},
		{"abc", "ba7816bf8f01cfea414140de5dae2223b00361a396177a9cb410ff61f20015ad"},
		{"abcdbcdecdefdefgefghfghighijhijkijkljklmklmnlmnomnopnopq", "248d6a61d20638b8e5c026930c3e6039a33ce45964ff2167f6ecedd419db06c1"},
		{"abcdefghbcdefghicdefghijdefghijkefghijklfghijklmghijklmnhijklmnoijklmnopjklmnopqklmnopqrlmnopqrsmnopqrstnopqrstu", "cf5b16a778af8380036ce59e7b0492370b249b11e8f07a51afac45037afee9d1"},
		{strings.Repeat("a", 1000000), "cdc76e5c9914fb9281a1c7e284d73e67f1809a48a497200e046d39ccc7112cd0"},
	} {
		if got := impl.HashSum(c.text); got != c.want {
			t.Errorf("%d bytes: %s, not %s", len(c.text), got, c.want)
		}
	}
}

// P1, at both sides of each block's end, and at every byte there is.
func TestHashSumLengths(t *testing.T) {
	for n := range 300 {
		text := someBytes(n)
		if got := impl.HashSum(text); got != wantSum(text) {
			t.Errorf("%d bytes: %s", n, got)
		}
	}
	for c := range 256 {
		text := string([]byte{byte(c)})
		if got := impl.HashSum(text); got != wantSum(text) {
			t.Errorf("byte %d: %s", c, got)
		}
	}
	long := someBytes(100003)
	if impl.HashSum(long) != wantSum(long) {
		t.Error("a long text")
	}
}

func TestHashFigures(t *testing.T) {
	for n := range 200 {
		for _, got := range []string{impl.HashSum(someBytes(n)), impl.HashMac(someBytes(n), "x"), impl.HashList([]string{someBytes(n)})} {
			if len(got) != 64 || strings.Trim(got, "0123456789abcdef") != "" {
				t.Errorf("%d bytes: %q", n, got)
			}
		}
	}
}

// P2, at what RFC 4231 prints.
func TestHashMacKnown(t *testing.T) {
	for i, c := range []struct{ key, text, want string }{
		{strings.Repeat("\x0b", 20), "Hi There", "b0344c61d8db38535ca8afceaf0bf12b881dc200c9833da726e9376c2e32cff7"},
		{"Jefe", "what do ya want for nothing?", "5bdcc146bf60754e6a042426089575c75a003f089d2739839dec58b964ec3843"},
		{strings.Repeat("\xaa", 20), strings.Repeat("\xdd", 50), "773ea91e36800e46854db8ebd09181a72959098b3ef8c122d9635514ced565fe"},
		{strings.Repeat("\xaa", 131), "Test Using Larger Than Block-Size Key - Hash Key First", "60e431591ee0b67f0d8a26aacbf5b77f8e0bc6213728c5140546040f0ee37f54"},
		{strings.Repeat("\xaa", 131), "This is a test using a larger than block-size key and a larger than block-size data. The key needs to be hashed before being used by the HMAC algorithm.", "9b09ffa71b942fcb27635fbcd5b0e944bfdc63644f0713938a7f51535c3a35e2"},
		{"", "", "b613679a0814d9ec772f95d778c35fc5ff1697c493715653c6c712144292c5ad"},
	} {
		if got := impl.HashMac(c.key, c.text); got != c.want {
			t.Errorf("case %d: %s", i, got)
		}
	}
}

// P2, with keys on both sides of a block's size.
func TestHashMacKeys(t *testing.T) {
	for n := range 200 {
		for _, text := range []string{"", "x", someBytes(64), someBytes(150)} {
			if got := impl.HashMac(someBytes(n), text); got != wantMac(someBytes(n), text) {
				t.Errorf("key of %d bytes, text of %d: %s", n, len(text), got)
			}
		}
	}
	long := strings.Repeat("k", 65)
	if impl.HashMac(long, "x") == impl.HashMac(long[:64], "x") {
		t.Error("a key of 65 bytes is taken for its first 64")
	}
}

// P2: a key that is longer by a byte that is not 0 makes another seal.
func TestHashMacNeedsKey(t *testing.T) {
	for _, n := range []int{0, 1, 31, 32, 62, 63, 64, 65, 66, 100, 128, 200} {
		seen := map[string]int{impl.HashMac(someBytes(n), "text"): 0}
		for c := 1; c < 256; c++ {
			got := impl.HashMac(someBytes(n)+string([]byte{byte(c)}), "text")
			if other, ok := seen[got]; ok {
				t.Errorf("key of %d bytes: byte %d seals as %d does", n, c, other)
			}
			seen[got] = c
		}
	}
}

// P3: all lists of up to four short texts, many of which are the same when joined, have other sums.
func TestHashListTellsEnds(t *testing.T) {
	texts := []string{"", "a", "aa", "b", "1:", "1:a", "0:"}
	lists := [][]string{{}}
	for from := 0; len(lists[from]) < 4; from++ {
		for _, text := range texts {
			lists = append(lists, append(slices.Clone(lists[from]), text))
		}
	}
	seen := map[string][]string{}
	for _, list := range lists {
		sum := impl.HashList(list)
		if other, ok := seen[sum]; ok {
			t.Errorf("%q and %q have one sum", list, other)
		}
		seen[sum] = list
	}
}

// P3, and the chapter's words on how the sum is made.
func TestHashListForm(t *testing.T) {
	for i, c := range []struct {
		list []string
		text string
	}{
		{nil, ""},
		{[]string{}, ""},
		{[]string{""}, "0:"},
		{[]string{"", ""}, "0:0:"},
		{[]string{"abc"}, "3:abc"},
		{[]string{"ab", "c"}, "2:ab1:c"},
		{[]string{"a", "bc"}, "1:a2:bc"},
		{[]string{"\x00\xff\n"}, "3:\x00\xff\n"},
		{[]string{someBytes(9), someBytes(10), someBytes(123)}, "9:" + someBytes(9) + "10:" + someBytes(10) + "123:" + someBytes(123)},
	} {
		if got := impl.HashList(c.list); got != wantSum(c.text) {
			t.Errorf("case %d: %s", i, got)
		}
	}
}

func TestHashListLeavesItsArgument(t *testing.T) {
	list := make([]string, 2, 4)
	list[0], list[1] = "a", "b"
	impl.HashList(list)
	if all := list[:4]; !slices.Equal(all, []string{"a", "b", "", ""}) {
		t.Errorf("%q", all)
	}
}
