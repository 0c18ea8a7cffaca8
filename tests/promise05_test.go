package tests

import (
	"testing"

	"loop.example/s0063/impl"
)

// aRow is the only row of leaf's cell 0 in a chart with one transition.
func aRow(t *testing.T, c impl.Chart, leaf, from, target int) impl.Row {
	t.Helper()
	c.Trans = []impl.Trans{{From: from, Sig: 0, Target: target}}
	table := impl.Compile(c, impl.Limits{Sigs: 1})
	for l, state := range table.Leaves {
		if state == leaf {
			if rows := table.Rows[table.Start[l]:table.Start[l+1]]; len(rows) == 1 {
				return rows[0]
			}
		}
	}
	t.Fatalf("leaf %d has no row, or more than one", leaf)
	return impl.Row{}
}

func TestPromise5EachWayOfATransition(t *testing.T) {
	for _, c := range []struct {
		what               string
		leaf, from, target int
		exits, enters      []int
		next               int
	}{
		{"of a leaf, to its sibling", 2, 2, 3, []int{2}, []int{3}, 3},
		{"of a leaf, to itself", 3, 3, 3, []int{3}, []int{3}, 3},
		{"of a leaf, internal", 7, 7, -1, nil, nil, 7},
		{"of a leaf, to its parent", 2, 2, 1, []int{2, 1}, []int{1, 3}, 3},
		{"of a leaf, to state 0", 7, 7, 0, []int{7, 5, 4, 0}, []int{0, 4, 5, 6}, 6},
		{"of a leaf, to a state with children", 9, 9, 4, []int{9}, []int{4, 5, 6}, 6},
		{"of a leaf, to a leaf deep elsewhere", 3, 3, 7, []int{3, 1}, []int{4, 5, 7}, 7},
		{"of a leaf, out to a leaf above", 7, 7, 8, []int{7, 5}, []int{8}, 8},
		{"of an ancestor, internal", 7, 4, -1, nil, nil, 7},
		{"of an ancestor, to itself", 7, 5, 5, []int{7, 5}, []int{5, 6}, 6},
		{"of an ancestor, into it", 7, 4, 7, []int{7, 5, 4}, []int{4, 5, 7}, 7},
		{"of an ancestor, into it, to another child", 6, 4, 8, []int{6, 5, 4}, []int{4, 8}, 8},
		{"of an ancestor, into it, to a state with children", 8, 4, 5, []int{8, 4}, []int{4, 5, 6}, 6},
		{"of an ancestor, to its sibling", 6, 4, 1, []int{6, 5, 4}, []int{1, 3}, 3},
		{"of an ancestor, out of it", 6, 5, 8, []int{6, 5}, []int{8}, 8},
		{"of an ancestor, to its parent", 7, 5, 4, []int{7, 5, 4}, []int{4, 5, 6}, 6},
		{"of an ancestor, to state 0", 2, 1, 0, []int{2, 1, 0}, []int{0, 4, 5, 6}, 6},
		{"of state 0, internal", 6, 0, -1, nil, nil, 6},
		{"of state 0, to itself", 6, 0, 0, []int{6, 5, 4, 0}, []int{0, 4, 5, 6}, 6},
		{"of state 0, to the leaf stood in", 6, 0, 6, []int{6, 5, 4, 0}, []int{0, 4, 5, 6}, 6},
		{"of state 0, to its child", 2, 0, 9, []int{2, 1, 0}, []int{0, 9}, 9},
		{"of state 0, to a state with children", 9, 0, 1, []int{9, 0}, []int{0, 1, 3}, 3},
		{"of state 0, to a leaf deep in it", 9, 0, 7, []int{9, 0}, []int{0, 4, 5, 7}, 7},
	} {
		sameRow(t, c.what, aRow(t, stepTree(), c.leaf, c.from, c.target), impl.Row{Trans: 0, Exits: c.exits, Enters: c.enters, Next: c.next})
	}
}

func TestPromise5OneState(t *testing.T) {
	c := treeChart(-1)
	c.Trans = []impl.Trans{{Sig: 1, Target: 0}, {Sig: 1, Target: -1}, {Sig: 0, Target: 0}}
	sameTable(t, impl.Compile(c, impl.Limits{Sigs: 3}), impl.Table{
		Sigs: 3, Leaves: []int{0}, Start: []int{0, 1, 3, 3},
		Rows: []impl.Row{
			{Trans: 2, Exits: []int{0}, Enters: []int{0}, Next: 0},
			{Trans: 0, Exits: []int{0}, Enters: []int{0}, Next: 0},
			{Trans: 1, Next: 0},
		},
		Boot: impl.Row{Trans: -1, Enters: []int{0}, Next: 0},
	})
}

func TestPromise5NoSignalAndNoTransition(t *testing.T) {
	sameTable(t, impl.Compile(treeChart(-1), impl.Limits{}), impl.Table{Leaves: []int{0}, Start: []int{0}, Boot: impl.Row{Trans: -1, Enters: []int{0}}})
	c := stepTree()
	boot := impl.Row{Trans: -1, Enters: []int{0, 4, 5, 6}, Next: 6}
	sameTable(t, impl.Compile(c, impl.Limits{Objs: 3}), impl.Table{Leaves: []int{2, 3, 6, 7, 8, 9}, Start: []int{0}, Boot: boot})
	sameTable(t, impl.Compile(c, impl.Limits{Sigs: 2}), impl.Table{Sigs: 2, Leaves: []int{2, 3, 6, 7, 8, 9}, Start: make([]int, 13), Boot: boot})
}

// Innermost first, and by index in each state, whatever the order of the list; guards don't matter.
func TestPromise5OrderOfACell(t *testing.T) {
	c := stepTree()
	never := code(num(0))
	c.Trans = []impl.Trans{
		{From: 0, Sig: 1, Target: -1},
		{From: 4, Sig: 1, Target: 9},
		{From: 7, Sig: 1, Target: 6, Guard: never},
		{From: 5, Sig: 0, Target: 4},
		{From: 7, Sig: 0, Target: 9},
		{From: 0, Sig: 1, Target: 7, Guard: code(num(1))},
		{From: 7, Sig: 1, Target: -1},
		{From: 1, Sig: 1, Target: 9},
		{From: 4, Sig: 1, Target: -1, Guard: never},
		{From: 7, Sig: 1, Target: 0},
		{From: 5, Sig: 1, Target: 5},
	}
	table := impl.Compile(c, impl.Limits{Sigs: 3})
	same(t, "leaves", table.Leaves, []int{2, 3, 6, 7, 8, 9})
	cells := [][]int{
		{}, {7, 0, 5}, {},
		{}, {7, 0, 5}, {},
		{3}, {10, 1, 8, 0, 5}, {},
		{4, 3}, {2, 6, 9, 10, 1, 8, 0, 5}, {},
		{}, {1, 8, 0, 5}, {},
		{}, {0, 5}, {},
	}
	start, rows := []int{0}, []int{}
	for _, cell := range cells {
		rows = append(rows, cell...)
		start = append(start, len(rows))
	}
	same(t, "start", table.Start, start)
	var got []int
	for _, row := range table.Rows {
		got = append(got, row.Trans)
	}
	same(t, "transitions", got, rows)
	sameTable(t, table, wantTable(c, impl.Limits{Sigs: 3}))
}

// One transition from each state to each other one, on a signal of its own group, in every small tree.
func TestPromise5EveryTransitionOfEverySmallTree(t *testing.T) {
	lim := impl.Limits{Sigs: 3}
	for states := 1; states <= 6; states++ {
		everyTree(states, func(c impl.Chart) {
			c.Trans = nil
			for target := -1; target < states; target++ {
				for from := range states {
					c.Trans = append(c.Trans, impl.Trans{From: from, Sig: (from + target + 1) % 2, Target: target})
				}
			}
			sameTable(t, impl.Compile(c, lim), wantTable(c, lim))
			if t.Failed() {
				t.Fatalf("in %v", c)
			}
		})
	}
}

func TestPromise5AnyChart(t *testing.T) {
	r := fixedRandom()
	for range 400 {
		lim := impl.Limits{Objs: 1 + r.Intn(3), Sigs: 1 + r.Intn(5), Timers: 1 + r.Intn(3), Vars: 1 + r.Intn(3)}
		c := busyChart(r, 1+r.Intn(60), lim)
		sameTable(t, impl.Compile(c, lim), wantTable(c, lim))
		if t.Failed() {
			t.Fatalf("%v %v", c, lim)
		}
	}
}

func TestPromise5Edges(t *testing.T) {
	lim := greatest(32)
	chain := chainChart(16)
	chain.Trans = []impl.Trans{{From: 15, Sig: 63, Target: 0}, {From: 0, Sig: 63, Target: 15}, {From: 0, Sig: 0, Target: 0}, {From: 15, Sig: 0, Target: 15}}
	sameTable(t, impl.Compile(chain, lim), wantTable(chain, lim))
	if got := impl.Compile(chain, lim); len(got.Start) != 65 || got.Start[64] != 4 || len(got.Rows[0].Exits) != 1 || len(got.Rows[1].Exits) != 16 || len(got.Rows[1].Enters) != 16 {
		t.Errorf("a chain: got %v", got)
	}
	flat := flatChart(200)
	flat.Trans = make([]impl.Trans, 500)
	for j := range flat.Trans {
		flat.Trans[j] = impl.Trans{From: 0, Sig: 63, Target: j%201 - 1}
	}
	table := impl.Compile(flat, lim)
	sameTable(t, table, wantTable(flat, lim))
	if last := len(table.Start) - 1; len(table.Leaves) != 199 || last != 199*64 || len(table.Rows) != 199*500 || table.Start[last] != 199*500 {
		t.Errorf("the greatest table: %d leaves, %d cells, %d rows", len(table.Leaves), last, len(table.Rows))
	}
}

// What the lists say has no say in the table.
func TestPromise5ListsDontMatter(t *testing.T) {
	lim := smallLimits()
	bare := smallChart()
	for i := range bare.States {
		bare.States[i].Entry, bare.States[i].Exit = nil, nil
	}
	for j := range bare.Trans {
		bare.Trans[j].Guard, bare.Trans[j].Action = nil, nil
	}
	sameTable(t, impl.Compile(smallChart(), lim), impl.Compile(bare, lim))
	sameTable(t, impl.Compile(smallChart(), lim), wantTable(bare, lim))
}

func TestPromise5WrongCharts(t *testing.T) {
	for what, c := range wrongCharts() {
		if got := impl.Compile(c, smallLimits()); got.Sigs != 0 || len(got.Leaves) != 0 || len(got.Start) != 0 || len(got.Rows) != 0 {
			t.Errorf("%s: got %v", what, got)
		} else {
			sameRow(t, what, got.Boot, impl.Row{})
		}
	}
	for _, lim := range wrongLimits() {
		got := impl.Compile(smallChart(), lim)
		if got.Sigs != 0 || len(got.Leaves) != 0 || len(got.Start) != 0 || len(got.Rows) != 0 {
			t.Errorf("%v: got %v", lim, got)
		}
		sameRow(t, lim, got.Boot, impl.Row{})
	}
	sameTable(t, impl.Compile(smallChart(), smallLimits()), wantTable(smallChart(), smallLimits()))
}

func TestPromise5NewMemoryAndNothingWritten(t *testing.T) {
	r := fixedRandom()
	for range 60 {
		lim := smallLimits()
		c := busyChart(r, 30, lim)
		before := copyChart(c)
		table := impl.Compile(c, lim)
		unchanged(t, "the chart", c, before)
		lists := [][]int{table.Leaves, table.Start, table.Boot.Exits, table.Boot.Enters}
		for _, row := range table.Rows {
			lists = append(lists, row.Exits, row.Enters)
		}
		apart(t, "table", lists...)
		sameTable(t, impl.Compile(c, lim), wantTable(c, lim))
	}
}
