package tests

import (
	"math"
	"reflect"
	"testing"

	"loop.example/s0063/impl"
)

func wantFault(t *testing.T, what any, c impl.Chart, lim impl.Limits, code, place int) {
	t.Helper()
	if gotCode, gotPlace := impl.CheckChart(c, lim); gotCode != code || gotPlace != place {
		t.Errorf("%v: got (%d, %d), want (%d, %d)", what, gotCode, gotPlace, code, place)
	}
}

func TestPromise3Constants(t *testing.T) {
	same(t, "bounds", []int{impl.MaxStates, impl.MaxTrans, impl.MaxDepth}, []int{200, 500, 16})
	same(t, "codes", []int{impl.ChartOK, impl.ChartCount, impl.ChartTree, impl.ChartDepth, impl.ChartInitial, impl.ChartAction, impl.ChartTrans}, []int{0, 1, 2, 3, 4, 5, 6})
}

func TestPromise3OrdinaryCharts(t *testing.T) {
	wantFault(t, "a small chart", smallChart(), smallLimits(), 0, 0)
	wantFault(t, "the greatest limits", smallChart(), greatest(32), 0, 0)
	wantFault(t, "a tree alone needs no limits", treeChart(-1, 0, 0, 1, 3, 1), impl.Limits{}, 0, 0)
	c := smallChart()
	c.States[0].Initial, c.States[1].Initial = 4, 3
	wantFault(t, "initial states that aren't the first children", c, smallLimits(), 0, 0)
	c.Trans = append(c.Trans, impl.Trans{From: 3, Sig: 1, Target: 3}, impl.Trans{From: 0, Sig: 0, Target: -1}, impl.Trans{From: 6, Sig: 0, Target: 0, Guard: []impl.Item{}, Action: []impl.Stm{}})
	wantFault(t, "no guard and no action", c, smallLimits(), 0, 0)
}

func TestPromise3NumberOfStates(t *testing.T) {
	wantFault(t, "no state", impl.Chart{}, impl.Limits{}, 1, 0)
	wantFault(t, "no state, but a transition", impl.Chart{States: []impl.State{}, Trans: make([]impl.Trans, 1)}, smallLimits(), 1, 0)
	for _, states := range []int{1, 2, 199, 200} {
		wantFault(t, states, flatChart(states), impl.Limits{}, 0, 0)
	}
	for _, states := range []int{201, 202, 1000} {
		wantFault(t, states, flatChart(states), impl.Limits{}, 1, 0)
	}
}

func TestPromise3NumberOfTransitions(t *testing.T) {
	for trans, want := range map[int]int{0: 0, 1: 0, 499: 0, 500: 0, 501: 1, 1000: 1} {
		c := smallChart()
		c.Trans = make([]impl.Trans, trans)
		wantFault(t, trans, c, smallLimits(), want, 0)
	}
	c := smallChart()
	c.Trans = make([]impl.Trans, 500)
	c.Trans[499].From = 7
	wantFault(t, "the last transition counts, too", c, smallLimits(), 6, 499)
}

func TestPromise3BoundsOfLimits(t *testing.T) {
	for field, most := range []int{64, 64, 200, 32} {
		for _, n := range []int{math.MinInt64, -2, -1, 0, 1, most - 1, most, most + 1, most + 2, math.MaxInt64} {
			var numbers [4]int
			numbers[field] = n
			lim := impl.Limits{Objs: numbers[0], Sigs: numbers[1], Timers: numbers[2], Vars: numbers[3]}
			want := one(n < 0 || n > most)
			wantFault(t, lim, treeChart(-1), lim, want, 0)
			c := treeChart(-1)
			c.States[0].Parent = 0
			wantFault(t, lim, c, lim, 2-want, 0)
		}
	}
}

func TestPromise3Parents(t *testing.T) {
	for i := range 7 {
		for _, parent := range append(wrongIDs(i), -1) {
			c := smallChart()
			c.States[i].Parent = parent
			if i == 0 && parent == -1 {
				wantFault(t, "state 0", c, smallLimits(), 0, 0)
				continue
			}
			wantFault(t, [2]int{i, parent}, c, smallLimits(), 2, i)
		}
	}
	wantFault(t, "two wrong parents", treeChart(-1, 0, 2, 3), impl.Limits{}, 2, 2)
	wantFault(t, "a ring", treeChart(1, 0), impl.Limits{}, 2, 0)
	c := flatChart(200)
	c.States[199].Parent = 199
	wantFault(t, "the last of MaxStates", c, impl.Limits{}, 2, 199)
}

func TestPromise3Depth(t *testing.T) {
	// A chain of n states has a last one with n - 1 proper ancestors.
	for ancestors, want := range map[int][2]int{14: {0, 0}, 15: {0, 0}, 16: {3, 16}, 17: {3, 16}, 199: {3, 16}} {
		wantFault(t, ancestors, chainChart(ancestors+1), impl.Limits{}, want[0], want[1])
	}
	c := chainChart(16)
	for range 100 {
		c.States = append(c.States, impl.State{Parent: 14, Initial: -1})
	}
	wantFault(t, "many states with MaxDepth - 1 ancestors", c, impl.Limits{}, 0, 0)
	c.States = append(c.States, impl.State{Parent: 110, Initial: -1}, impl.State{Parent: 15, Initial: -1})
	wantFault(t, "two that are too deep", c, impl.Limits{}, 3, 116)
}

func TestPromise3Initial(t *testing.T) {
	for i := range 7 {
		for initial := -3; initial <= 9; initial++ {
			c := smallChart()
			c.States[i].Initial = initial
			right := map[[2]int]bool{{0, 1}: true, {0, 4}: true, {1, 2}: true, {1, 3}: true, {2, -1}: true, {3, -1}: true, {4, 5}: true, {5, 6}: true, {6, -1}: true}
			if right[[2]int{i, initial}] {
				wantFault(t, [2]int{i, initial}, c, smallLimits(), 0, 0)
			} else {
				wantFault(t, [2]int{i, initial}, c, smallLimits(), 4, i)
			}
		}
		for _, initial := range wrongIDs(7) {
			c := smallChart()
			c.States[i].Initial = initial
			wantFault(t, [2]int{i, initial}, c, smallLimits(), 4, i)
		}
	}
	c := treeChart(-1)
	c.States[0].Initial = 0
	wantFault(t, "one state that is its own initial", c, impl.Limits{}, 4, 0)
	c = smallChart()
	c.States[6].Initial, c.States[3].Initial = 0, 0
	wantFault(t, "two wrong initials", c, smallLimits(), 4, 3)
}

func TestPromise3Actions(t *testing.T) {
	wrong := [][]impl.Stm{
		{{}},
		{rightStm(2), {Kind: impl.StmEmit}},
		{{Kind: impl.StmPost, A: 1, Code: code(num(1))}},
		{{Kind: impl.StmPublish, B: 2, Code: code(num(1))}},
		{{Kind: impl.StmDisarm, A: 1}},
		{{Kind: impl.StmSet, A: 1, Code: code(num(1))}},
		{{Kind: impl.StmEmit, Code: code(variable(1))}},
		make([]impl.Stm, impl.MaxStms+1),
	}
	for i := range 7 {
		for k, list := range wrong {
			c := smallChart()
			c.States[i].Entry = list
			wantFault(t, [2]int{i, k}, c, smallLimits(), 5, i)
			c = smallChart()
			c.States[i].Exit = list
			wantFault(t, [2]int{i, k}, c, smallLimits(), 5, i)
		}
	}
	c := smallChart()
	c.States[5].Entry, c.States[2].Exit, c.States[4].Exit = wrong[0], wrong[0], wrong[0]
	wantFault(t, "three wrong lists", c, smallLimits(), 5, 2)
	full := make([]impl.Stm, impl.MaxStms)
	for i := range full {
		full[i] = rightStm(impl.StmRecall)
	}
	c = smallChart()
	c.States[3].Entry, c.States[3].Exit, c.Trans[3].Action = full, full, full
	wantFault(t, "MaxStms statements", c, smallLimits(), 0, 0)
}

func TestPromise3ListsAreSeenWithTheLimits(t *testing.T) {
	for i, s := range []impl.Stm{
		{Kind: impl.StmPost, A: 3, B: 0, Code: code(num(1))},
		{Kind: impl.StmFront, A: 0, B: 4, Code: code(num(1))},
		{Kind: impl.StmArm, A: 5, Code: code(num(1))},
		{Kind: impl.StmSet, A: 6, Code: code(num(1))},
	} {
		c := treeChart(-1)
		c.States[0].Entry = []impl.Stm{s}
		numbers := [4]int{4, 5, 6, 7}
		lim := impl.Limits{Objs: 4, Sigs: 5, Timers: 6, Vars: 7}
		wantFault(t, s, c, lim, 0, 0)
		numbers[i]--
		lim = impl.Limits{Objs: numbers[0], Sigs: numbers[1], Timers: numbers[2], Vars: numbers[3]}
		wantFault(t, s, c, lim, 5, 0)
	}
}

// transFaults are the ways in which a transition of the small chart can be wrong.
func transFaults() []func(x *impl.Trans) {
	var list []func(x *impl.Trans)
	for _, n := range append(wrongIDs(7), -1) {
		list = append(list, func(x *impl.Trans) { x.From = n })
	}
	for _, n := range append(wrongIDs(2), -1) {
		list = append(list, func(x *impl.Trans) { x.Sig = n })
	}
	for _, n := range wrongIDs(7) {
		list = append(list, func(x *impl.Trans) { x.Target = n })
	}
	for _, guard := range [][]impl.Item{{{}}, code(variable(1)), code(num(1), num(1)), code(op(impl.OpAdd)), chain(201)} {
		list = append(list, func(x *impl.Trans) { x.Guard = guard })
	}
	for _, s := range []impl.Stm{{}, {Kind: impl.StmEmit}, {Kind: impl.StmPost, A: 1, Code: code(num(1))}, {Kind: impl.StmPost, B: 2, Code: code(num(1))}, {Kind: impl.StmDisarm, A: 1}} {
		list = append(list, func(x *impl.Trans) { x.Action = []impl.Stm{rightStm(2), s} })
	}
	return append(list, func(x *impl.Trans) { x.Action = make([]impl.Stm, 51) })
}

func TestPromise3Transitions(t *testing.T) {
	for k, spoil := range transFaults() {
		for _, j := range []int{0, 3, 6} {
			c := smallChart()
			spoil(&c.Trans[j])
			wantFault(t, [2]int{k, j}, c, smallLimits(), 6, j)
		}
	}
	for a, spoil := range transFaults() {
		for b, other := range transFaults() {
			c := smallChart()
			spoil(&c.Trans[4])
			other(&c.Trans[2])
			wantFault(t, [2]int{a, b}, c, smallLimits(), 6, 2)
		}
	}
	for from := range 7 {
		for sig := range 2 {
			for target := -1; target < 7; target++ {
				c := smallChart()
				c.Trans = []impl.Trans{{From: from, Sig: sig, Target: target, Guard: chain(200)}}
				wantFault(t, c.Trans, c, smallLimits(), 0, 0)
			}
		}
	}
	c := smallChart()
	c.Trans = make([]impl.Trans, 1)
	wantFault(t, "no signal at all", c, impl.Limits{Objs: 1, Timers: 1, Vars: 1}, 6, 0)
}

// Every set of the six faults, a later kind always at a smaller place than an earlier one.
func TestPromise3FirstOfSeveral(t *testing.T) {
	for set := range 64 {
		c := chainChart(20)
		c.Trans = make([]impl.Trans, 3)
		lim := smallLimits()
		// Without its fault 3, the chain is cut in the middle.
		if set&4 == 0 {
			c.States[10].Parent = 0
			c.States[9].Initial = -1
		}
		wants := [6]int{0, 18, 16, 12, 5, 1}
		if set&1 != 0 {
			lim.Vars = 33
		}
		if set&2 != 0 {
			c.States[18].Parent = 18
			c.States[19].Parent = -1
		}
		if set&8 != 0 {
			c.States[12].Initial = 14
			c.States[13].Initial = 12
		}
		if set&16 != 0 {
			c.States[5].Exit = make([]impl.Stm, 1)
			c.States[6].Entry = make([]impl.Stm, 1)
		}
		if set&32 != 0 {
			c.Trans[1].Sig = 2
			c.Trans[2].From = -1
		}
		code, place := 0, 0
		for k := 5; k >= 0; k-- {
			if set>>k&1 != 0 {
				code, place = k+1, wants[k]
			}
		}
		wantFault(t, set, c, lim, code, place)
	}
}

// spoil brings in one fault of any kind, or something that may be right.
func spoil(pick func(n int) int, c *impl.Chart, lim *impl.Limits) {
	i, n := pick(len(c.States)), pick(2*len(c.States)+4)-len(c.States)
	switch pick(9) {
	case 0:
		c.States[i].Parent = n
	case 1:
		c.States[i].Initial = n
	case 2:
		c.States[i].Entry = append(c.States[i].Entry, impl.Stm{Kind: pick(11), A: n})
	case 3:
		c.States[i].Exit = append(c.States[i].Exit, impl.Stm{Kind: pick(11), B: n})
	case 4:
		lim.Vars = pick(40) - 3
	case 5:
		lim.Timers = pick(4)
	case 6:
		for inner := i; len(c.States) < 60; inner = len(c.States) - 1 {
			c.States = append(c.States, impl.State{Parent: inner, Initial: len(c.States) + 1})
		}
	default:
		if len(c.Trans) > 0 {
			x := &c.Trans[pick(len(c.Trans))]
			fields := []*int{&x.From, &x.Sig, &x.Target}
			*fields[pick(3)] = n
		}
	}
}

func TestPromise3AnyChart(t *testing.T) {
	r := fixedRandom()
	var seen [7]int
	for range 20000 {
		lim := impl.Limits{Objs: 1 + r.Intn(3), Sigs: 1 + r.Intn(3), Timers: 1 + r.Intn(3), Vars: 1 + r.Intn(3)}
		c := anyChart(r, 1+r.Intn(40), lim)
		for range r.Intn(4) {
			spoil(r.Intn, &c, &lim)
		}
		code, place := wantCheck(c, lim)
		wantFault(t, "any chart", c, lim, code, place)
		if t.Failed() {
			t.Fatalf("%v %v", c, lim)
		}
		seen[code]++
	}
	for code, count := range seen {
		if count < 20 {
			t.Errorf("code %d came up %d times only", code, count)
		}
	}
}

func TestPromise3NothingWritten(t *testing.T) {
	r := fixedRandom()
	for range 300 {
		lim := smallLimits()
		c := anyChart(r, 20, lim)
		if r.Intn(2) == 0 {
			spoil(r.Intn, &c, &lim)
		}
		before := copyChart(c)
		code, place := impl.CheckChart(c, lim)
		if !reflect.DeepEqual(c, before) {
			t.Fatal("the chart was written into")
		}
		wantFault(t, "asked again", c, lim, code, place)
	}
}
