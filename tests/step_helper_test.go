package tests

import (
	"math/rand"
	"reflect"
	"slices"
	"testing"

	"loop.example/s0063/impl"
)

func emit(items ...impl.Item) impl.Stm { return impl.Stm{Kind: impl.StmEmit, Code: items} }

func set(v int, items ...impl.Item) impl.Stm {
	return impl.Stm{Kind: impl.StmSet, A: v, Code: items}
}

// told gives every list of the chart one statement that emits where it stands: 100 + i for entries, 200 + i for exits, 300 + j for actions.
func told(c impl.Chart) impl.Chart {
	c = copyChart(c)
	for i := range c.States {
		c.States[i].Entry = []impl.Stm{emit(num(100 + i))}
		c.States[i].Exit = []impl.Stm{emit(num(200 + i))}
	}
	for j := range c.Trans {
		c.Trans[j].Action = []impl.Stm{emit(num(300 + j))}
	}
	return c
}

// stepTree is 0 (1 (2, 3), 4 (5 (6, 7), 8), 9); its leaves are 2, 3, 6, 7, 8, 9, and not all initial states are first children.
func stepTree() impl.Chart {
	c := treeChart(-1, 0, 1, 1, 0, 4, 5, 5, 4, 0)
	c.States[0].Initial = 4
	c.States[1].Initial = 3
	return c
}

func leavesOf(c impl.Chart) []int {
	var list []int
	for i := range c.States {
		if len(childrenOf(c, i)) == 0 {
			list = append(list, i)
		}
	}
	return list
}

// wantRow says 3.1 for one transition, by indices alone.
func wantRow(c impl.Chart, leaf, j int) impl.Row {
	x := c.Trans[j]
	row := impl.Row{Trans: j, Next: leaf}
	if x.Target == -1 {
		return row
	}
	domain := wantDomain(c, x.From, x.Target)
	for state := leaf; state != domain; state = c.States[state].Parent {
		row.Exits = append(row.Exits, state)
	}
	for state := x.Target; state != domain; state = c.States[state].Parent {
		row.Enters = slices.Insert(row.Enters, 0, state)
	}
	row.Enters = append(row.Enters, wantDrill(c, x.Target)...)
	row.Next = row.Enters[len(row.Enters)-1]
	return row
}

// tried are the transitions that a step goes through, in order.
func tried(c impl.Chart, leaf, sig int) []int {
	var list []int
	for _, from := range upFrom(c, leaf) {
		for j, x := range c.Trans {
			if x.From == from && x.Sig == sig {
				list = append(list, j)
			}
		}
	}
	return list
}

func wantBootRow(c impl.Chart) impl.Row {
	entered := append([]int{0}, wantDrill(c, 0)...)
	return impl.Row{Trans: -1, Enters: entered, Next: entered[len(entered)-1]}
}

func wantTable(c impl.Chart, lim impl.Limits) impl.Table {
	t := impl.Table{Sigs: lim.Sigs, Leaves: leavesOf(c), Start: []int{0}, Boot: wantBootRow(c)}
	for _, leaf := range t.Leaves {
		for sig := range lim.Sigs {
			for _, j := range tried(c, leaf, sig) {
				t.Rows = append(t.Rows, wantRow(c, leaf, j))
			}
			t.Start = append(t.Start, len(t.Rows))
		}
	}
	return t
}

func sameRow(t *testing.T, what any, got, want impl.Row) {
	t.Helper()
	if got.Trans != want.Trans || got.Next != want.Next || !slices.Equal(got.Exits, want.Exits) || !slices.Equal(got.Enters, want.Enters) {
		t.Errorf("%v: got %v, want %v", what, got, want)
	}
}

func sameTable(t *testing.T, got, want impl.Table) {
	t.Helper()
	if got.Sigs != want.Sigs || len(got.Rows) != len(want.Rows) {
		t.Errorf("got %d signals and %d rows, want %d and %d", got.Sigs, len(got.Rows), want.Sigs, len(want.Rows))
		return
	}
	same(t, "leaves", got.Leaves, want.Leaves)
	same(t, "start", got.Start, want.Start)
	sameRow(t, "boot", got.Boot, want.Boot)
	for i := range want.Rows {
		sameRow(t, i, got.Rows[i], want.Rows[i])
	}
}

// An outcome is what a step answers.
type outcome struct {
	leaf    int
	bank    impl.Bank
	effects []impl.Effect
	handled bool
}

func noOutcome() outcome { return outcome{leaf: -1} }

func dispatch(c impl.Chart, lim impl.Limits, leaf int, b impl.Bank, e impl.Event) outcome {
	next, after, effects, handled := impl.Dispatch(c, lim, leaf, b, e)
	return outcome{next, after, effects, handled}
}

// boot has handled false: a first step answers nothing of that.
func boot(c impl.Chart, lim impl.Limits, b impl.Bank) outcome {
	leaf, after, effects := impl.Boot(c, lim, b)
	return outcome{leaf, after, effects, false}
}

func sameOutcome(t *testing.T, what any, got, want outcome) {
	t.Helper()
	if got.leaf != want.leaf || got.handled != want.handled || !slices.Equal(got.effects, want.effects) ||
		!slices.Equal(got.bank.Kinds, want.bank.Kinds) || !slices.Equal(got.bank.Vals, want.bank.Vals) {
		t.Errorf("%v: got %v, want %v", what, got, want)
	}
}

// along carries out the lists of a row by chapter 1, each on the bank that the one before left.
func along(c impl.Chart, row impl.Row, b impl.Bank, arg int) outcome {
	out := outcome{leaf: row.Next, bank: b, handled: row.Trans >= 0}
	var lists [][]impl.Stm
	for _, state := range row.Exits {
		lists = append(lists, c.States[state].Exit)
	}
	if row.Trans >= 0 {
		lists = append(lists, c.Trans[row.Trans].Action)
	}
	for _, state := range row.Enters {
		lists = append(lists, c.States[state].Entry)
	}
	for _, list := range lists {
		after, effects := impl.Exec(list, out.bank, arg)
		out.bank = after
		out.effects = append(out.effects, effects...)
	}
	return out
}

func wantStep(c impl.Chart, leaf int, b impl.Bank, e impl.Event) outcome {
	for _, j := range tried(c, leaf, e.Sig) {
		if guard := c.Trans[j].Guard; len(guard) == 0 || impl.Eval(guard, b, e.Arg) != 0 {
			return along(c, wantRow(c, leaf, j), b, e.Arg)
		}
	}
	return outcome{leaf: leaf, bank: b}
}

func wantBoot(c impl.Chart, b impl.Bank) outcome {
	return along(c, wantBootRow(c), b, 0)
}

func emitted(effects []impl.Effect) []int {
	list := []int{}
	for _, e := range effects {
		list = append(list, e.Val)
	}
	return list
}

// bankOf gives a right bank of so many variables, of all kinds in turn.
func bankOf(r *rand.Rand, vars int) impl.Bank {
	b := impl.Bank{Kinds: make([]int, vars), Vals: make([]int, vars)}
	for i := range vars {
		b.Kinds[i] = 1 + i%7
		b.Vals[i] = wantConv(anyNumber(r), b.Kinds[i])
	}
	return b
}

func cloneBank(b impl.Bank) impl.Bank {
	return impl.Bank{Kinds: slices.Clone(b.Kinds), Vals: slices.Clone(b.Vals)}
}

// busyChart is a right chart whose lists and guards compute with the bank and the argument.
func busyChart(r *rand.Rand, most int, lim impl.Limits) impl.Chart {
	c := anyChart(r, most, lim)
	vals := make([]int, lim.Vars)
	for i := range c.States {
		c.States[i].Entry, c.States[i].Exit = busyList(r, lim), busyList(r, lim)
	}
	for j := range c.Trans {
		x := &c.Trans[j]
		x.Action = busyList(r, lim)
		if len(x.Guard) > 0 {
			x.Guard, _ = anyCode(r, 1+r.Intn(7), vals, 0)
		}
	}
	return c
}

func busyList(r *rand.Rand, lim impl.Limits) []impl.Stm {
	list := anyList(r, lim)
	for i := range list {
		if len(list[i].Code) > 0 {
			list[i].Code, _ = anyCode(r, 1+r.Intn(7), make([]int, lim.Vars), 0)
		}
	}
	if lim.Vars > 0 && r.Intn(2) == 0 {
		v := r.Intn(lim.Vars)
		list = append(list, set(v, variable(v), op(impl.OpArg), op(impl.OpAdd), num(3), op(impl.OpMul)))
	}
	return list
}

// apart finds out whether lists share memory, up to their capacities: each is filled with a number of its own. It spoils them all.
func apart(t *testing.T, what any, lists ...[]int) {
	t.Helper()
	for k, list := range lists {
		for i := range cap(list) {
			list[:cap(list)][i] = 1000 + k
		}
	}
	for k, list := range lists {
		for _, n := range list[:cap(list)] {
			if n != 1000+k {
				t.Errorf("%v: list %d shares memory with list %d", what, k, n-1000)
				return
			}
		}
	}
}

func unchanged(t *testing.T, what any, got, want any) {
	t.Helper()
	if !reflect.DeepEqual(got, want) {
		t.Errorf("%v was written into", what)
	}
}

// wrongCharts each have one of the faults of 2.2 for smallLimits, in its order.
func wrongCharts() map[string]impl.Chart {
	tree := smallChart()
	tree.States[3].Parent = 3
	initial := smallChart()
	initial.States[1].Initial = -1
	action := smallChart()
	action.States[6].Exit = []impl.Stm{{}}
	trans := smallChart()
	trans.Trans[6].Sig = 2
	guard := smallChart()
	guard.Trans[6].Guard = code(variable(1))
	return map[string]impl.Chart{"no state": {}, "MaxStates + 1 states": flatChart(201), "a wrong parent": tree, "too deep": chainChart(17),
		"a wrong initial": initial, "a wrong list": action, "a wrong signal": trans, "a wrong guard": guard}
}

func smallBank() impl.Bank { return impl.Bank{Kinds: []int{impl.KindU8}, Vals: []int{200}} }

// wrongBanks aren't OK, or don't have the one variable of smallLimits.
func wrongBanks() map[string]impl.Bank {
	return map[string]impl.Bank{
		"no variable":       {},
		"two variables":     {Kinds: []int{1, 1}, Vals: []int{0, 0}},
		"more kinds":        {Kinds: []int{1, 1}, Vals: []int{0}},
		"fewer kinds":       {Vals: []int{0}},
		"kind 0":            {Kinds: []int{0}, Vals: []int{0}},
		"kind 8":            {Kinds: []int{8}, Vals: []int{0}},
		"a value too great": {Kinds: []int{impl.KindU8}, Vals: []int{256}},
		"a value too small": {Kinds: []int{impl.KindU8}, Vals: []int{-1}},
		"MaxVars + 1":       {Kinds: slices.Repeat([]int{4}, 33), Vals: make([]int, 33)},
	}
}

// wrongLimits is any limits with one number out of bounds or too small for smallChart.
func wrongLimits() []impl.Limits {
	return []impl.Limits{{}, {Objs: 0, Sigs: 2, Timers: 1, Vars: 1}, {Objs: 1, Sigs: 1, Timers: 1, Vars: 1}, {Objs: 65, Sigs: 2, Timers: 1, Vars: 1},
		{Objs: 1, Sigs: 65, Timers: 1, Vars: 1}, {Objs: 1, Sigs: 2, Timers: 201, Vars: 1}, {Objs: 1, Sigs: 2, Timers: -1, Vars: 1}, {Objs: 1, Sigs: 2, Timers: 1, Vars: 33}, {Objs: 1, Sigs: 2, Timers: 1, Vars: 0}}
}
