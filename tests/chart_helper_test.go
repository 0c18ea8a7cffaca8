package tests

import (
	"math"
	"math/rand"
	"slices"

	"loop.example/s0063/impl"
)

// treeChart gives a chart of these parents, each state with its first child as Initial.
func treeChart(parents ...int) impl.Chart {
	var c impl.Chart
	for i, parent := range parents {
		c.States = append(c.States, impl.State{Parent: parent, Initial: slices.Index(parents, i)})
	}
	return c
}

// smallChart is the tree 0 (1 (2, 3), 4 (5 (6))), with a list at every place that has one.
func smallChart() impl.Chart {
	c := treeChart(-1, 0, 1, 1, 0, 4, 5)
	for i := range c.States {
		c.States[i].Entry = []impl.Stm{rightStm(impl.StmEmit)}
		c.States[i].Exit = []impl.Stm{rightStm(impl.StmSet), rightStm(impl.StmDefer)}
	}
	for i := range c.States {
		c.Trans = append(c.Trans, impl.Trans{From: i, Sig: i % 2, Target: i - 1, Guard: code(variable(0)), Action: []impl.Stm{rightStm(impl.StmPost)}})
	}
	return c
}

func smallLimits() impl.Limits { return impl.Limits{Objs: 1, Sigs: 2, Timers: 1, Vars: 1} }

// chainChart is states one inside the other, the last one the only leaf.
func chainChart(states int) impl.Chart {
	var parents []int
	for i := range states {
		parents = append(parents, i-1)
	}
	return treeChart(parents...)
}

// flatChart is state 0 and the others as its children.
func flatChart(states int) impl.Chart {
	parents := make([]int, states)
	parents[0] = -1
	return treeChart(parents...)
}

func copyStms(list []impl.Stm) []impl.Stm {
	out := slices.Clone(list)
	for i := range out {
		out[i].Code = slices.Clone(out[i].Code)
	}
	return out
}

func copyChart(c impl.Chart) impl.Chart {
	out := impl.Chart{States: slices.Clone(c.States), Trans: slices.Clone(c.Trans)}
	for i := range out.States {
		s := &out.States[i]
		s.Entry, s.Exit = copyStms(s.Entry), copyStms(s.Exit)
	}
	for j := range out.Trans {
		x := &out.Trans[j]
		x.Guard, x.Action = slices.Clone(x.Guard), copyStms(x.Action)
	}
	return out
}

// upFrom is the state and what it is in, by the parents alone; it needs a tree without the fault ChartTree.
func upFrom(c impl.Chart, state int) []int {
	var list []int
	for ; state >= 0; state = c.States[state].Parent {
		list = append(list, state)
	}
	return list
}

func childrenOf(c impl.Chart, state int) []int {
	var list []int
	for i, s := range c.States {
		if s.Parent == state {
			list = append(list, i)
		}
	}
	return list
}

func isOne(n, count int) bool { return n >= 0 && n < count }

// firstPlace is the least place at which it is wrong, or -1.
func firstPlace(count int, wrong func(i int) bool) int {
	for i := range count {
		if wrong(i) {
			return i
		}
	}
	return -1
}

// wantCheck says 2.2 line by line.
func wantCheck(c impl.Chart, lim impl.Limits) (int, int) {
	states, trans := len(c.States), len(c.Trans)
	if states < 1 || states > 200 || trans > 500 || !isOne(lim.Objs, 65) || !isOne(lim.Sigs, 65) || !isOne(lim.Timers, 201) || !isOne(lim.Vars, 33) {
		return 1, 0
	}
	if i := firstPlace(states, func(i int) bool {
		return i == 0 && c.States[i].Parent != -1 || i > 0 && !isOne(c.States[i].Parent, i)
	}); i >= 0 {
		return 2, i
	}
	if i := firstPlace(states, func(i int) bool { return len(upFrom(c, i))-1 >= 16 }); i >= 0 {
		return 3, i
	}
	if i := firstPlace(states, func(i int) bool {
		children, initial := childrenOf(c, i), c.States[i].Initial
		return len(children) > 0 && !slices.Contains(children, initial) || len(children) == 0 && initial != -1
	}); i >= 0 {
		return 4, i
	}
	if i := firstPlace(states, func(i int) bool {
		return !impl.StmsOK(c.States[i].Entry, lim) || !impl.StmsOK(c.States[i].Exit, lim)
	}); i >= 0 {
		return 5, i
	}
	if j := firstPlace(trans, func(j int) bool { return wrongTrans(c.Trans[j], states, lim) }); j >= 0 {
		return 6, j
	}
	return 0, 0
}

func wrongTrans(x impl.Trans, states int, lim impl.Limits) bool {
	return !isOne(x.From, states) || !isOne(x.Sig, lim.Sigs) || x.Target != -1 && !isOne(x.Target, states) ||
		len(x.Guard) > 0 && !impl.CodeOK(x.Guard, lim.Vars) || !impl.StmsOK(x.Action, lim)
}

// anyTree gives a right tree of 1 to most states, some of them as deep as may be.
func anyTree(r *rand.Rand, most int) impl.Chart {
	c := impl.Chart{States: []impl.State{{Parent: -1, Initial: -1}}}
	for range r.Intn(most) {
		i := len(c.States)
		parent := max(0, i-1-r.Intn(min(i, 1+r.Intn(i))))
		for len(upFrom(c, parent)) >= impl.MaxDepth {
			parent = r.Intn(parent)
		}
		c.States = append(c.States, impl.State{Parent: parent, Initial: -1})
	}
	for i := range c.States {
		if children := childrenOf(c, i); len(children) > 0 {
			c.States[i].Initial = children[r.Intn(len(children))]
		}
	}
	return c
}

// anyChart gives a right chart for limits of at least one of each.
func anyChart(r *rand.Rand, most int, lim impl.Limits) impl.Chart {
	c := anyTree(r, most)
	for i := range c.States {
		c.States[i].Entry, c.States[i].Exit = anyList(r, lim), anyList(r, lim)
	}
	for range r.Intn(2 * most) {
		x := impl.Trans{From: r.Intn(len(c.States)), Sig: r.Intn(lim.Sigs), Target: r.Intn(len(c.States)+1) - 1, Action: anyList(r, lim)}
		if r.Intn(2) == 0 {
			x.Guard, _ = anyCode(r, 1+r.Intn(5), make([]int, lim.Vars), 0)
		}
		c.Trans = append(c.Trans, x)
	}
	return c
}

// anyList gives a short right list.
func anyList(r *rand.Rand, lim impl.Limits) []impl.Stm {
	var list []impl.Stm
	for range r.Intn(4) {
		s := rightStm(1 + r.Intn(9))
		row := stmRows(lim)[s.Kind]
		s.A, s.B = r.Intn(row.a), r.Intn(row.b)
		list = append(list, s)
	}
	return list
}

// wrongIDs are numbers that are no index below count, -1 aside.
func wrongIDs(count int) []int {
	return []int{math.MinInt64, -3, -2, count, count + 1, 1 << 32, math.MaxInt64}
}
