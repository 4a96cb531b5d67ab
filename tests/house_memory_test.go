package tests

import (
	"fmt"
	"reflect"
	"slices"
	"strings"
	"sync"
	"testing"
	"unsafe"

	"loop.example/portreeve/impl"
)

// span is a piece of memory: a list with its spare room, or a text.
type span struct {
	from, to uintptr
	list     bool
}

// spans is all memory of a value, in order.
func spans(v any) []span {
	var all []span
	spansOf(reflect.ValueOf(v), &all)
	slices.SortFunc(all, func(a, b span) int { return int(a.from) - int(b.from) })
	return all
}

func spansOf(v reflect.Value, all *[]span) {
	switch v.Kind() {
	case reflect.String:
		if text := v.String(); text != "" {
			from := uintptr(unsafe.Pointer(unsafe.StringData(text)))
			*all = append(*all, span{from, from + uintptr(len(text)), false})
		}
	case reflect.Slice:
		if v.Cap() > 0 {
			*all = append(*all, span{v.Pointer(), v.Pointer() + uintptr(v.Cap())*v.Type().Elem().Size(), true})
		}
		for i := range v.Len() {
			spansOf(v.Index(i), all)
		}
	case reflect.Struct:
		for i := range v.NumField() {
			spansOf(v.Field(i), all)
		}
	}
}

// meet says whether two pieces of memory have anything in common.
func meet(a, b span) bool { return a.from < b.to && b.from < a.to }

// checkApart asks that an answer has no memory of an argument, and that no two lists of it share any.
func checkApart(t *testing.T, what string, answer any, given ...any) {
	t.Helper()
	got := spans(answer)
	for _, g := range given {
		for _, one := range spans(g) {
			at, _ := slices.BinarySearchFunc(got, one.from, func(s span, from uintptr) int { return int(s.to) - int(from) - 1 })
			for ; at < len(got) && got[at].from < one.to; at++ {
				if meet(got[at], one) {
					t.Errorf("%s: the answer shares memory with an argument (a list: %v)", what, one.list)
				}
			}
		}
	}
	lists := slices.DeleteFunc(slices.Clone(got), func(s span) bool { return !s.list })
	for i := 1; i < len(lists); i++ {
		if meet(lists[i-1], lists[i]) {
			t.Errorf("%s: two lists of the answer share memory", what)
		}
	}
}

// lived is houses of all kinds, each with requests of each kind, with codes and without.
func lived(t *testing.T) map[string]impl.House {
	return map[string]impl.House{
		"new": impl.HouseNew(someKey), "village": village(t, 1, 10), "goes": goes(t), "asks": does(t, goes(t), step), "town": town(t), "ending": ending(t), "full": full(town(t)), "approved": approved(t, does(t, village(t, 1, 10), plans), "prod", 1, "cy", "dee"),
		"a run that is done with a great credential": changed(town(t), func(h *impl.House) { run(h, 1).Cap.Limits = []string{"", "x", "only vm.a"} }),
	}
}

func livedLines(h impl.House) []string {
	lines := []string{
		tick, "tick acme ann - 0 0 ", "tenant abba zoe - 0 0 ", "tenant gamma zoe - 0 0 text", "tenant acme zoe - 0 0 ", "user acme ann - 0 0 bob plan write", "user acme ann - 0 0 zoe plan write", "user acme ann - 0 0 a", "user acme ann - 0 0 ",
		"space acme ann dev 0 110 ", "space acme ann prod 0 110 ", "space beta zoe prod 0 110 ", "conf acme bob prod 0 0 " + confOther, "conf acme bob prod 0 0 what", "policy acme ann prod 0 0 deny X if act create X\n", "policy acme ann prod 0 0 ", plans, "plan acme dee prod 0 0 ", "plan beta zoe dev 0 0 ",
		step, "step acme - prod 0 1 ", "step beta - dev 0 0 ", "step nobody - dev 0 0 ",
	}
	for id := range 9 {
		lines = append(lines, fmt.Sprintf("cancel acme bob prod %d 0 ", id))
		if s := spaceOf(&h, "acme", "prod"); s != nil && id > 0 && id <= len(s.Runs) {
			lines = append(lines, fmt.Sprintf("approve acme eve prod %d 0 %s", id, s.Runs[id-1].Digest), fmt.Sprintf("approve acme dee prod %d 0 %s", id, s.Runs[id-1].Digest))
		}
	}
	return lines
}

// HouseDo: an answer is new memory, and no argument is changed, nor what is behind its lists.
func TestHouseMemory(t *testing.T) {
	for name, base := range lived(t) {
		for _, line := range livedLines(base) {
			h := twin(base)
			r, _ := modelReqRead(line)
			r = twin(r)
			before := spread(h)
			got, code := impl.HouseDo(h, r)
			checkApart(t, name+": "+line, got, h, r)
			want := spread(got)
			again, _ := impl.HouseDo(h, r)
			if spread(h) != before {
				t.Fatalf("%s: %.60q (%d) changes the argument", name, line, code)
			}
			checkApart(t, name+": "+line, again, got)
			reflectSpoil(reflect.ValueOf(&h).Elem())
			if spread(got) != want {
				t.Fatalf("%s: %.60q: the answer hangs on the argument", name, line)
			}
			if !alike(got, again) {
				t.Fatalf("%s: %.60q: two answers", name, line)
			}
		}
		h := twin(base)
		r := twin(impl.Req{Kind: impl.ReqStep, Tenant: "acme", Space: "prod", Num: -1})
		got, code := impl.HouseDo(h, r)
		if checkApart(t, name, got, h, r); code != 2 || !alike(got, h) {
			t.Errorf("%s: %d", name, code)
		}
	}
}

// reflectSpoil writes over each list of a value, and behind its end.
func reflectSpoil(v reflect.Value) {
	switch v.Kind() {
	case reflect.Slice:
		all := v.Slice(0, v.Cap())
		for i := range all.Len() {
			reflectSpoil(all.Index(i))
			if i >= v.Len() {
				all.Index(i).SetZero()
			}
		}
	case reflect.Struct:
		for i := range v.NumField() {
			reflectSpoil(v.Field(i))
		}
	case reflect.String:
		v.SetString("spoilt")
	case reflect.Int:
		v.SetInt(-7)
	}
}

// HouseCall, HouseView, HouseNew and HouseGiven: new memory, too.
func TestHouseTellMemory(t *testing.T) {
	for name, base := range lived(t) {
		h, tenant, space := twin(base), own("acme"), own("prod")
		before := spread(h)
		call, _ := impl.HouseCall(h, tenant, space)
		checkApart(t, name+": HouseCall", call, h, tenant, space)
		view := impl.HouseView(h, tenant)
		checkApart(t, name+": HouseView", view, h, tenant)
		impl.HouseOk(h)
		impl.HouseSafe(h)
		key := own(modelPath("acme", "prod", 1, 0))
		checkApart(t, "HouseGiven", impl.HouseGiven(key), key)
		if spread(h) != before {
			t.Errorf("%s is changed", name)
		}
	}
	key := own(someKey)
	checkApart(t, "HouseNew", impl.HouseNew(key), key)
	asks := does(t, goes(t), step)
	asks = changed(asks, func(h *impl.House) { resealed(h, 1, func(c *impl.Cap) { c.Limits = []string{"only vm.a", "until 7"} }) })
	call, ok := impl.HouseCall(asks, "acme", "prod")
	if checkApart(t, "HouseCall", call, asks); !ok || len(call.Cap.Limits) != 2 {
		t.Errorf("%+v", call)
	}
}

// Requests that are done at the same time, of one house, come to what they come to alone.
func TestHouseTogether(t *testing.T) {
	h := town(t)
	lines := livedLines(h)
	answers := make([]impl.House, len(lines))
	codes := make([]int, len(lines))
	var all sync.WaitGroup
	for i, line := range lines {
		all.Go(func() {
			r, _ := modelReqRead(line)
			answers[i], codes[i] = impl.HouseDo(h, r)
			impl.HouseView(h, "acme")
			impl.HouseCall(h, "acme", "prod")
		})
	}
	all.Wait()
	for i, line := range lines {
		r, _ := modelReqRead(line)
		if got := asked(t, h, r, codes[i]); !alike(got, answers[i]) {
			t.Errorf("%s", strings.TrimSpace(line))
		}
	}
}
