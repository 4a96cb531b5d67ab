package tests

import (
	"math/rand"
	"slices"

	"loop.example/portreeve/impl"
)

func modelGraphOk(n int, needs []impl.Need) bool {
	for _, need := range needs {
		if need.Of < 0 || need.On < 0 || need.Of >= n || need.On >= n {
			return false
		}
	}
	return n >= 0 && n <= 16
}

// modelComes is those that come, in order: always the least that is left and needs none that is left.
func modelComes(n int, needs []impl.Need) []int {
	var come []int
	for next := 0; next < n; {
		needy := slices.ContainsFunc(needs, func(need impl.Need) bool { return need.Of == next && !slices.Contains(come, need.On) })
		if needy || slices.Contains(come, next) {
			next++
			continue
		}
		come, next = append(come, next), 0
	}
	return come
}

// modelRing says the document's words on GraphCycle.
func modelRing(n int, needs []impl.Need) []int {
	if !modelGraphOk(n, needs) {
		return nil
	}
	come := modelComes(n, needs)
	if len(come) == n {
		return nil
	}
	at := 0
	for slices.Contains(come, at) {
		at++
	}
	var path []int
	for !slices.Contains(path, at) {
		path = append(path, at)
		least := n
		for _, need := range needs {
			if need.Of == at && !slices.Contains(come, need.On) {
				least = min(least, need.On)
			}
		}
		at = least
	}
	ring := path[slices.Index(path, at):]
	for ring[0] != slices.Min(ring) {
		ring = append(ring[1:len(ring):len(ring)], ring[0])
	}
	return ring
}

// modelReach is which one needs which, at once or by others.
func modelReach(n int, needs []impl.Need) [][]bool {
	reach := make([][]bool, n)
	for i := range reach {
		reach[i] = make([]bool, n)
	}
	for _, need := range needs {
		reach[need.Of][need.On] = true
	}
	for k := range n {
		for i := range n {
			for j := range n {
				reach[i][j] = reach[i][j] || reach[i][k] && reach[k][j]
			}
		}
	}
	return reach
}

// allGraphs tells each graph of n.
func allGraphs(n int, tell func(needs []impl.Need)) {
	for set := range 1 << (n * n) {
		var needs []impl.Need
		for i := range n * n {
			if set>>i&1 == 1 {
				needs = append(needs, impl.Need{Of: i / n, On: i % n})
			}
		}
		tell(needs)
	}
}

// anyGraph is some graph, with rings about as often as not.
func anyGraph(r *rand.Rand) (int, []impl.Need) {
	n := 1 + r.Intn(16)
	places := r.Perm(n)
	var needs []impl.Need
	for range r.Intn(2 * n) {
		a, b := r.Intn(n), r.Intn(n)
		if a < b || r.Intn(12) == 0 {
			needs = append(needs, impl.Need{Of: places[a], On: places[b]})
		}
	}
	return n, needs
}
