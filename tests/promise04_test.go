package tests

import (
	"math"
	"reflect"
	"slices"
	"testing"

	"loop.example/s0063/impl"
)

// wantDomain looks through all states for those that both have above them, and takes the one with most above it.
func wantDomain(c impl.Chart, from, target int) int {
	found := -1
	for d := range c.States {
		both := slices.Contains(upFrom(c, from)[1:], d) && slices.Contains(upFrom(c, target)[1:], d)
		if both && (found == -1 || len(upFrom(c, d)) > len(upFrom(c, found))) {
			found = d
		}
	}
	return found
}

func wantDrill(c impl.Chart, state int) []int {
	var list []int
	for state = c.States[state].Initial; state != -1; state = c.States[state].Initial {
		list = append(list, state)
	}
	return list
}

// wantAnswers asks all three questions at every state and every pair.
func wantAnswers(t *testing.T, c impl.Chart) {
	t.Helper()
	for state := range c.States {
		same(t, "ancestors", impl.Ancestors(c, state), upFrom(c, state))
		drill := impl.Drill(c, state)
		same(t, "drill", drill, wantDrill(c, state))
		leaf := append([]int{state}, drill...)[len(drill)]
		if !isOne(leaf, len(c.States)) || c.States[leaf].Initial != -1 || len(childrenOf(c, leaf)) != 0 {
			t.Errorf("%d isn't a leaf", leaf)
		}
		for other := range c.States {
			if got, want := impl.Domain(c, state, other), wantDomain(c, state, other); got != want {
				t.Errorf("domain of %d and %d: got %d, want %d", state, other, got, want)
			}
		}
	}
	if t.Failed() {
		t.Fatalf("in %v", c.States)
	}
}

func wantFixed(t *testing.T, what any, c impl.Chart, state int) {
	t.Helper()
	if got := impl.Ancestors(c, state); len(got) != 0 {
		t.Errorf("%v: ancestors of %d: got %v", what, state, got)
	}
	if got := impl.Drill(c, state); len(got) != 0 {
		t.Errorf("%v: drill of %d: got %v", what, state, got)
	}
	for _, other := range []int{0, 1, state} {
		if a, b := impl.Domain(c, state, other), impl.Domain(c, other, state); a != -2 || b != -2 {
			t.Errorf("%v: domain of %d and %d: got %d, %d", what, state, other, a, b)
		}
	}
}

func TestPromise4SmallTree(t *testing.T) {
	c := smallChart()
	c.States[0].Initial, c.States[1].Initial = 4, 3
	for state, want := range [][]int{{0}, {1, 0}, {2, 1, 0}, {3, 1, 0}, {4, 0}, {5, 4, 0}, {6, 5, 4, 0}} {
		same(t, "ancestors", impl.Ancestors(c, state), want)
	}
	for state, want := range [][]int{{4, 5, 6}, {3}, {}, {}, {5, 6}, {6}, {}} {
		same(t, "drill", impl.Drill(c, state), want)
	}
	domains := [7][7]int{
		{-1, -1, -1, -1, -1, -1, -1},
		{-1, 0, 0, 0, 0, 0, 0},
		{-1, 0, 1, 1, 0, 0, 0},
		{-1, 0, 1, 1, 0, 0, 0},
		{-1, 0, 0, 0, 0, 0, 0},
		{-1, 0, 0, 0, 0, 4, 4},
		{-1, 0, 0, 0, 0, 4, 5},
	}
	for from := range 7 {
		for target := range 7 {
			if got := impl.Domain(c, from, target); got != domains[from][target] {
				t.Errorf("domain of %d and %d: got %d, want %d", from, target, got, domains[from][target])
			}
		}
	}
}

func TestPromise4OneState(t *testing.T) {
	c := treeChart(-1)
	same(t, "ancestors", impl.Ancestors(c, 0), []int{0})
	same(t, "drill", impl.Drill(c, 0), nil)
	if got := impl.Domain(c, 0, 0); got != -1 {
		t.Errorf("domain: got %d", got)
	}
}

// everyTree hands on each right tree of so many states, with each choice of initial states.
func everyTree(states int, hand func(c impl.Chart)) {
	var grow func(parents []int)
	grow = func(parents []int) {
		if len(parents) == states {
			everyInitial(treeChart(parents...), 0, hand)
			return
		}
		for parent := range parents {
			grow(append(slices.Clone(parents), parent))
		}
	}
	grow([]int{-1})
}

func everyInitial(c impl.Chart, state int, hand func(c impl.Chart)) {
	if state == len(c.States) {
		hand(c)
		return
	}
	children := childrenOf(c, state)
	for _, child := range children {
		c.States[state].Initial = child
		everyInitial(c, state+1, hand)
	}
	if len(children) == 0 {
		everyInitial(c, state+1, hand)
	}
}

func TestPromise4EveryPairOfEverySmallTree(t *testing.T) {
	count := 0
	for states := 1; states <= 6; states++ {
		everyTree(states, func(c impl.Chart) {
			count++
			wantAnswers(t, c)
		})
	}
	if count < 200 {
		t.Errorf("%d trees only", count)
	}
}

func TestPromise4AnyTree(t *testing.T) {
	r := fixedRandom()
	for range 60 {
		wantAnswers(t, anyTree(r, 40))
	}
}

func TestPromise4Edges(t *testing.T) {
	chain := chainChart(16)
	same(t, "ancestors", impl.Ancestors(chain, 15), []int{15, 14, 13, 12, 11, 10, 9, 8, 7, 6, 5, 4, 3, 2, 1, 0})
	same(t, "drill", impl.Drill(chain, 0), []int{1, 2, 3, 4, 5, 6, 7, 8, 9, 10, 11, 12, 13, 14, 15})
	wantAnswers(t, chain)
	wantAnswers(t, chainChart(15))
	flat := flatChart(200)
	same(t, "ancestors", impl.Ancestors(flat, 199), []int{199, 0})
	same(t, "drill", impl.Drill(flat, 0), []int{1})
	if a, b := impl.Domain(flat, 199, 198), impl.Domain(flat, 199, 199); a != 0 || b != 0 {
		t.Errorf("domains: got %d, %d", a, b)
	}
	flat.Trans = make([]impl.Trans, 500)
	same(t, "ancestors beside MaxTrans transitions", impl.Ancestors(flat, 199), []int{199, 0})
}

func TestPromise4StatesThatAreNone(t *testing.T) {
	for _, c := range []impl.Chart{treeChart(-1, 0), smallChart(), chainChart(16), flatChart(200)} {
		for _, state := range append(wrongIDs(len(c.States)), -1) {
			wantFixed(t, len(c.States), c, state)
			for other := range c.States {
				if a, b := impl.Domain(c, state, other), impl.Domain(c, other, state); a != -2 || b != -2 {
					t.Errorf("domain of %d and %d: got %d, %d", state, other, a, b)
				}
			}
		}
	}
}

func TestPromise4ChartsThatFail(t *testing.T) {
	few := treeChart(-1, 0)
	few.Trans = make([]impl.Trans, 501)
	early := smallChart()
	early.States[0].Parent = 0
	late := smallChart()
	late.States[6].Parent = 6
	deep := chainChart(17)
	leaf := smallChart()
	leaf.States[6].Initial = 6
	outer := smallChart()
	outer.States[0].Initial = 2
	none := smallChart()
	none.States[4].Initial = -1
	for what, c := range map[string]impl.Chart{
		"no state": {}, "MaxStates + 1 states": flatChart(201), "MaxTrans + 1 transitions": few,
		"a parent of state 0": early, "a wrong parent": late, "a state too deep": deep,
		"an initial of a leaf": leaf, "an initial that is no child": outer, "no initial": none,
	} {
		for state := range 7 {
			wantFixed(t, what, c, state)
		}
		wantFixed(t, what, c, -1)
		wantFixed(t, what, c, len(c.States))
	}
}

func TestPromise4ListsGuardsSignalsAndTargetsDontMatter(t *testing.T) {
	c := smallChart()
	for i := range c.States {
		c.States[i].Entry = []impl.Stm{{Kind: 99, A: -1}}
		c.States[i].Exit = make([]impl.Stm, 51)
	}
	wantAnswers(t, c)
	for i := range c.Trans {
		c.Trans[i] = impl.Trans{From: -5, Sig: 64 + i, Target: -7, Guard: code(op(impl.OpAdd)), Action: make([]impl.Stm, 51)}
	}
	wantAnswers(t, c)
	c.Trans[0].Sig = math.MinInt64
	wantAnswers(t, impl.Chart{States: treeChart(-1, 0, 0).States, Trans: c.Trans})
}

func TestPromise4NewMemoryAndNothingWritten(t *testing.T) {
	c := smallChart()
	before := copyChart(c)
	for state := range c.States {
		for _, ask := range []func(c impl.Chart, state int) []int{impl.Ancestors, impl.Drill} {
			first := ask(c, state)
			want := slices.Clone(first)
			for i := range first {
				first[i] = 99
			}
			_ = append(first, 99)
			same(t, "asked again", ask(c, state), want)
		}
		impl.Domain(c, state, 6-state)
	}
	if !reflect.DeepEqual(c, before) {
		t.Error("the chart was written into")
	}
}
