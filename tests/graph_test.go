package tests

import (
	"math/rand"
	"slices"
	"testing"

	"loop.example/portreeve/impl"
)

// checkGraph holds all three functions against the promises and the model.
func checkGraph(t *testing.T, n int, needs []impl.Need) {
	t.Helper()
	order, ok := impl.GraphOrder(n, needs)
	ring := impl.GraphCycle(n, needs)
	if ok != (modelGraphOk(n, needs) && len(ring) == 0) || !ok && len(order) > 0 {
		t.Fatalf("%d %v: order %v, %v; ring %v", n, needs, order, ok, ring)
	}
	if ok && (!slices.Equal(order, modelComes(n, needs)) || len(order) != n) {
		t.Fatalf("%d %v: order %v, not %v", n, needs, order, modelComes(n, needs))
	}
	for _, need := range needs {
		if ok && slices.Index(order, need.Of) <= slices.Index(order, need.On) {
			t.Fatalf("%d %v: order %v", n, needs, order)
		}
	}
	checkRing(t, n, needs, ring)
	if modelGraphOk(n, needs) {
		checkBelow(t, n, needs)
	}
}

func checkRing(t *testing.T, n int, needs []impl.Need, ring []int) {
	t.Helper()
	for i, one := range ring {
		if !slices.Contains(needs, impl.Need{Of: one, On: ring[(i+1)%len(ring)]}) || slices.Index(ring, one) != i || one < ring[0] {
			t.Fatalf("%d %v: ring %v", n, needs, ring)
		}
	}
	if want := modelRing(n, needs); !slices.Equal(ring, want) {
		t.Fatalf("%d %v: ring %v, not %v", n, needs, ring, want)
	}
}

func checkBelow(t *testing.T, n int, needs []impl.Need) {
	t.Helper()
	reach := modelReach(n, needs)
	for of := range n {
		var want []int
		for on := range n {
			if reach[of][on] {
				want = append(want, on)
			}
		}
		if got := impl.GraphBelow(n, needs, of); !slices.Equal(got, want) {
			t.Fatalf("%d %v: below %d %v, not %v", n, needs, of, got, want)
		}
	}
}

// P12, P13, P14: each graph of at most three, and some of four.
func TestGraphSmall(t *testing.T) {
	for n := range 4 {
		allGraphs(n, func(needs []impl.Need) { checkGraph(t, n, needs) })
	}
	r := rand.New(rand.NewSource(12))
	allGraphs(4, func(needs []impl.Need) {
		if r.Intn(8) == 0 {
			checkGraph(t, 4, needs)
		}
	})
}

// P12, P13, P14: graphs made by chance, needs twice and in any order among them.
func TestGraphAny(t *testing.T) {
	r := rand.New(rand.NewSource(13))
	rings := 0
	for range 4000 {
		n, needs := anyGraph(r)
		needs = append(needs, needs[:len(needs)/3]...)
		checkGraph(t, n, needs)
		if len(impl.GraphCycle(n, needs)) > 0 {
			rings++
		}
	}
	if rings < 400 || rings > 3600 {
		t.Errorf("the test is wrong: %d", rings)
	}
}

// P12: orders by hand.
func TestGraphOrder(t *testing.T) {
	for _, c := range []struct {
		n     int
		needs []impl.Need
		want  []int
		ok    bool
	}{
		{0, nil, nil, true}, {1, nil, []int{0}, true}, {3, nil, []int{0, 1, 2}, true},
		{16, nil, []int{0, 1, 2, 3, 4, 5, 6, 7, 8, 9, 10, 11, 12, 13, 14, 15}, true},
		{17, nil, nil, false}, {-1, nil, nil, false}, {1 << 40, nil, nil, false}, {-1 << 63, nil, nil, false},
		{2, []impl.Need{{Of: 0, On: 1}}, []int{1, 0}, true}, {2, []impl.Need{{Of: 0, On: 1}, {Of: 0, On: 1}}, []int{1, 0}, true},
		{4, []impl.Need{{Of: 0, On: 3}}, []int{1, 2, 3, 0}, true}, {4, []impl.Need{{Of: 1, On: 3}, {Of: 2, On: 3}}, []int{0, 3, 1, 2}, true},
		{4, []impl.Need{{Of: 0, On: 2}, {Of: 2, On: 1}, {Of: 3, On: 0}}, []int{1, 2, 0, 3}, true},
		{16, []impl.Need{{Of: 0, On: 15}}, []int{1, 2, 3, 4, 5, 6, 7, 8, 9, 10, 11, 12, 13, 14, 15, 0}, true},
		{1, []impl.Need{{Of: 0, On: 0}}, nil, false}, {3, []impl.Need{{Of: 1, On: 1}}, nil, false}, {2, []impl.Need{{Of: 0, On: 1}, {Of: 1, On: 0}}, nil, false},
		{2, []impl.Need{{Of: 2, On: 0}}, nil, false}, {2, []impl.Need{{Of: 0, On: 2}}, nil, false}, {2, []impl.Need{{Of: -1, On: 0}}, nil, false}, {2, []impl.Need{{Of: 0, On: -1}}, nil, false},
		{0, []impl.Need{{}}, nil, false}, {2, []impl.Need{{Of: 1, On: 0}, {Of: 1 << 62, On: 0}}, nil, false}, {16, []impl.Need{{Of: 16, On: 0}}, nil, false},
	} {
		if got, ok := impl.GraphOrder(c.n, c.needs); ok != c.ok || !slices.Equal(got, c.want) {
			t.Errorf("%d %v: %v, %v", c.n, c.needs, got, ok)
		}
	}
}

// P13: rings by hand.
func TestGraphCycle(t *testing.T) {
	for _, c := range []struct {
		what  string
		n     int
		needs []impl.Need
		want  []int
	}{
		{"none", 3, []impl.Need{{Of: 0, On: 1}, {Of: 1, On: 2}}, nil},
		{"of one", 1, []impl.Need{{}}, []int{0}}, {"of one among others", 3, []impl.Need{{Of: 2, On: 2}, {Of: 0, On: 1}}, []int{2}},
		{"of two", 2, []impl.Need{{Of: 0, On: 1}, {Of: 1, On: 0}}, []int{0, 1}},
		{"reached from outside", 3, []impl.Need{{Of: 0, On: 2}, {Of: 2, On: 1}, {Of: 1, On: 2}}, []int{1, 2}},
		{"reached by a long way", 5, []impl.Need{{Of: 0, On: 1}, {Of: 1, On: 4}, {Of: 4, On: 3}, {Of: 3, On: 2}, {Of: 2, On: 4}}, []int{2, 4, 3}},
		{"needing one that can come", 3, []impl.Need{{Of: 1, On: 0}, {Of: 1, On: 2}, {Of: 2, On: 1}}, []int{1, 2}},
		{"two rings", 4, []impl.Need{{Of: 0, On: 1}, {Of: 1, On: 0}, {Of: 2, On: 3}, {Of: 3, On: 2}}, []int{0, 1}},
		{"two rings, the second one reached first", 5, []impl.Need{{Of: 0, On: 3}, {Of: 3, On: 4}, {Of: 4, On: 3}, {Of: 1, On: 2}, {Of: 2, On: 1}}, []int{3, 4}},
		{"two ways on, the least is taken", 4, []impl.Need{{Of: 0, On: 3}, {Of: 0, On: 1}, {Of: 1, On: 0}, {Of: 3, On: 0}}, []int{0, 1}},
		{"one in the ring that needs itself", 3, []impl.Need{{Of: 0, On: 1}, {Of: 1, On: 1}, {Of: 1, On: 0}}, []int{0, 1}},
		{"one that needs itself, reached", 2, []impl.Need{{Of: 0, On: 1}, {Of: 1, On: 1}}, []int{1}},
		{"the last", 16, []impl.Need{{Of: 15, On: 14}, {Of: 14, On: 15}}, []int{14, 15}},
		{"not ok", 17, []impl.Need{{}}, nil}, {"below 0", -1, nil, nil}, {"of others", 1, []impl.Need{{}, {Of: 1}}, nil}, {"on others", 1, []impl.Need{{}, {On: 1}}, nil}, {"no graph", 0, nil, nil},
	} {
		if got := impl.GraphCycle(c.n, c.needs); !slices.Equal(got, c.want) {
			t.Errorf("%s: %v, not %v", c.what, got, c.want)
		}
	}
}

// P14: what is below, by hand.
func TestGraphBelow(t *testing.T) {
	needs := []impl.Need{{Of: 0, On: 2}, {Of: 2, On: 1}, {Of: 1, On: 3}, {Of: 5, On: 4}, {Of: 4, On: 4}}
	for _, c := range []struct {
		n, of int
		needs []impl.Need
		want  []int
	}{
		{6, 3, needs, nil}, {6, 0, needs, []int{1, 2, 3}}, {6, 2, needs, []int{1, 3}}, {6, 1, needs, []int{3}},
		{6, 4, needs, []int{4}}, {6, 5, needs, []int{4}}, {6, 6, needs, nil}, {6, -1, needs, nil}, {6, 1 << 40, needs, nil}, {6, -1 << 63, needs, nil},
		{5, 0, needs, nil}, {17, 0, nil, nil}, {17, 0, needs, nil}, {-1, 0, nil, nil}, {0, 0, nil, nil}, {1, 0, nil, nil}, {1, 0, []impl.Need{{}}, []int{0}},
		{3, 0, []impl.Need{{Of: 0, On: 1}, {Of: 1, On: 0}}, []int{0, 1}}, {3, 2, []impl.Need{{Of: 0, On: 1}, {Of: 1, On: 0}, {Of: 2, On: 1}}, []int{0, 1}},
		{16, 15, []impl.Need{{Of: 15, On: 0}, {Of: 0, On: 14}}, []int{0, 14}}, {2, 0, []impl.Need{{Of: 0, On: 1}, {Of: 0, On: 2}}, nil}, {2, 0, []impl.Need{{Of: 0, On: 1}, {Of: -1, On: 1}}, nil},
	} {
		if got := impl.GraphBelow(c.n, c.needs, c.of); !slices.Equal(got, c.want) {
			t.Errorf("%d of %d, %v: %v, not %v", c.of, c.n, c.needs, got, c.want)
		}
	}
}

// Answers are new memory, and arguments stay as they are.
func TestGraphMemory(t *testing.T) {
	whole := []impl.Need{{Of: 2, On: 1}, {Of: 1, On: 2}, {Of: 9, On: 9}}
	needs := whole[:2]
	before := slices.Clone(whole)
	ring, below := impl.GraphCycle(3, needs), impl.GraphBelow(3, needs, 1)
	order, _ := impl.GraphOrder(3, needs[:1])
	ring[0], below[0], order[0] = 7, 7, 7
	again, _ := impl.GraphOrder(3, needs[:1])
	if !slices.Equal(whole, before) || impl.GraphCycle(3, needs)[0] != 1 || impl.GraphBelow(3, needs, 1)[0] != 1 || again[0] != 0 {
		t.Error("memory is shared", whole)
	}
}
