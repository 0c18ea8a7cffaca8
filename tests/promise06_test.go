package tests

import (
	"math"
	"slices"
	"testing"

	"loop.example/s0063/impl"
)

// aStep tells what a step of a chart with one transition emits, and its leaf.
func aStep(c impl.Chart, leaf, from, target int) ([]int, int) {
	c.Trans = []impl.Trans{{From: from, Sig: 0, Target: target}}
	got := dispatch(told(c), impl.Limits{Sigs: 1}, leaf, impl.Bank{}, impl.Event{})
	return emitted(got.effects), got.leaf
}

func TestPromise6OrderOfAStep(t *testing.T) {
	for _, c := range []struct {
		what               string
		leaf, from, target int
		emits              []int
		next               int
	}{
		{"to a leaf's sibling", 2, 2, 3, []int{202, 300, 103}, 3},
		{"of a leaf, to itself", 3, 3, 3, []int{203, 300, 103}, 3},
		{"of a leaf, internal", 7, 7, -1, []int{300}, 7},
		{"of an ancestor, internal", 7, 4, -1, []int{300}, 7},
		{"of state 0, internal", 9, 0, -1, []int{300}, 9},
		{"to another subtree", 3, 3, 7, []int{203, 201, 300, 104, 105, 107}, 7},
		{"to a state with children", 3, 3, 4, []int{203, 201, 300, 104, 105, 106}, 6},
		{"of an ancestor, to itself", 7, 4, 4, []int{207, 205, 204, 300, 104, 105, 106}, 6},
		{"of an ancestor, into it", 8, 4, 7, []int{208, 204, 300, 104, 105, 107}, 7},
		{"of an ancestor, out of it", 6, 5, 8, []int{206, 205, 300, 108}, 8},
		{"to state 0", 6, 5, 0, []int{206, 205, 204, 200, 300, 100, 104, 105, 106}, 6},
		{"of state 0, to itself", 2, 0, 0, []int{202, 201, 200, 300, 100, 104, 105, 106}, 6},
		{"of state 0, to a leaf", 6, 0, 2, []int{206, 205, 204, 200, 300, 100, 101, 102}, 2},
	} {
		emits, next := aStep(stepTree(), c.leaf, c.from, c.target)
		same(t, c.what, emits, c.emits)
		if next != c.next {
			t.Errorf("%s: got leaf %d, want %d", c.what, next, c.next)
		}
	}
}

func TestPromise6OneState(t *testing.T) {
	c := treeChart(-1)
	c.Trans = []impl.Trans{{Sig: 0, Target: 0}, {Sig: 1, Target: -1}}
	c = told(c)
	lim := impl.Limits{Sigs: 2}
	first := boot(c, lim, impl.Bank{})
	sameOutcome(t, "boot", first, outcome{0, impl.Bank{}, []impl.Effect{{Kind: 2, Val: 100}}, false})
	same(t, "to itself", emitted(dispatch(c, lim, 0, impl.Bank{}, impl.Event{Sig: 0}).effects), []int{200, 300, 100})
	same(t, "internal", emitted(dispatch(c, lim, 0, impl.Bank{}, impl.Event{Sig: 1}).effects), []int{301})
}

func TestPromise6FirstStep(t *testing.T) {
	got := boot(told(stepTree()), impl.Limits{}, impl.Bank{})
	same(t, "first step", emitted(got.effects), []int{100, 104, 105, 106})
	if got.leaf != 6 {
		t.Errorf("leaf: got %d", got.leaf)
	}
	chain := boot(told(chainChart(16)), impl.Limits{}, impl.Bank{})
	same(t, "a chain", emitted(chain.effects), []int{100, 101, 102, 103, 104, 105, 106, 107, 108, 109, 110, 111, 112, 113, 114, 115})
}

// digits makes every list append a digit of its own to variable 0 and emit the outcome with the argument: each must see what the one before left.
func digits(c impl.Chart) impl.Chart {
	c = copyChart(c)
	add := func(d int) []impl.Stm {
		return []impl.Stm{
			set(0, variable(0), num(10), op(impl.OpMul), num(d), op(impl.OpAdd)),
			emit(variable(0), num(100), op(impl.OpMul), op(impl.OpArg), op(impl.OpAdd)),
		}
	}
	for i := range c.States {
		c.States[i].Entry, c.States[i].Exit = add(i), add(9-i)
	}
	for j := range c.Trans {
		c.Trans[j].Action = add(j)
	}
	return c
}

func TestPromise6EachListOnTheBankBefore(t *testing.T) {
	c := treeChart(-1, 0, 1, 0, 3)
	c.Trans = []impl.Trans{{From: 2, Sig: 0, Target: 3}, {From: 0, Sig: 1, Target: 4}}
	c = digits(c)
	lim := impl.Limits{Sigs: 2, Vars: 2}
	b := impl.Bank{Kinds: []int{impl.KindI64, impl.KindI8}, Vals: []int{6, -5}}
	after := func(n int) impl.Bank { return impl.Bank{Kinds: []int{impl.KindI64, impl.KindI8}, Vals: []int{n, -5}} }
	values := func(list ...int) []impl.Effect {
		var effects []impl.Effect
		for _, n := range list {
			effects = append(effects, impl.Effect{Kind: impl.StmEmit, Val: n})
		}
		return effects
	}
	sameOutcome(t, "boot", boot(c, lim, b), outcome{2, after(6012), values(6000, 60100, 601200), false})
	sameOutcome(t, "step", dispatch(c, lim, 2, b, impl.Event{Sig: 0, Arg: 42}),
		outcome{4, after(678034), values(6742, 67842, 678042, 6780342, 67803442), true})
	sameOutcome(t, "step of state 0", dispatch(c, lim, 2, b, impl.Event{Sig: 1, Arg: -3}),
		outcome{4, after(67891034), values(6697, 67797, 678897, 6789097, 67890997, 678910297, 6789103397), true})
}

func TestPromise6BankStaysInItsKinds(t *testing.T) {
	c := treeChart(-1, 0)
	c.Trans = []impl.Trans{{From: 1, Sig: 0, Target: 1}}
	double := []impl.Stm{set(0, variable(0), num(2), op(impl.OpMul))}
	c.States[1].Exit, c.Trans[0].Action, c.States[1].Entry = double, double, double
	lim := impl.Limits{Sigs: 1, Vars: 1}
	for kind := 1; kind <= 7; kind++ {
		for _, n := range edgeNumbers() {
			v := wantConv(n, kind)
			want := wantConv(wantConv(wantConv(v*2, kind)*2, kind)*2, kind)
			got := dispatch(c, lim, 1, impl.Bank{Kinds: []int{kind}, Vals: []int{v}}, impl.Event{})
			sameOutcome(t, kind, got, outcome{1, impl.Bank{Kinds: []int{kind}, Vals: []int{want}}, nil, true})
		}
	}
}

// Every statement but a Set gives its effect, at each of the three places.
func TestPromise6EffectsOfEveryKind(t *testing.T) {
	list := []impl.Stm{
		set(0, op(impl.OpArg)),
		emit(variable(0)),
		{Kind: impl.StmPost, A: 1, B: 2, Code: code(num(3))},
		{Kind: impl.StmFront, A: 2, B: 1, Code: code(num(4))},
		{Kind: impl.StmPublish, B: 2, Code: code(num(5))},
		{Kind: impl.StmDefer},
		{Kind: impl.StmRecall},
		{Kind: impl.StmArm, A: 3, B: 6, Code: code(num(7))},
		{Kind: impl.StmDisarm, A: 2},
	}
	want := []impl.Effect{{Kind: 2, Val: 8}, {Kind: 3, A: 1, B: 2, Val: 3}, {Kind: 4, A: 2, B: 1, Val: 4}, {Kind: 5, B: 2, Val: 5},
		{Kind: 6}, {Kind: 7}, {Kind: 8, A: 3, B: 6, Val: 7}, {Kind: 9, A: 2}}
	lim := impl.Limits{Objs: 3, Sigs: 3, Timers: 4, Vars: 1}
	b := impl.Bank{Kinds: []int{impl.KindI8}, Vals: []int{8}}
	e := impl.Event{Sig: 0, Arg: 8}
	for place := range 3 {
		c := treeChart(-1, 0, 0)
		c.Trans = []impl.Trans{{From: 1, Sig: 0, Target: 2}}
		*[]*[]impl.Stm{&c.States[1].Exit, &c.Trans[0].Action, &c.States[2].Entry}[place] = list
		sameOutcome(t, place, dispatch(c, lim, 1, b, e), outcome{2, b, want, true})
	}
	c := treeChart(-1)
	c.States[0].Entry = list
	want[0].Val = 0
	sameOutcome(t, "a first step has the argument 0", boot(c, lim, b), outcome{0, impl.Bank{Kinds: b.Kinds, Vals: []int{0}}, want, false})
}

// guarded is state 0 with the leaves 1, 2, 3, 4; leaf 1 and state 0 have two transitions each on signal 0.
func guarded(guards ...[]impl.Item) impl.Chart {
	c := treeChart(-1, 0, 0, 0, 0)
	from := []int{0, 1, 0, 1}
	for j, guard := range guards {
		c.Trans = append(c.Trans, impl.Trans{From: from[j], Sig: 0, Target: j + 1, Guard: guard, Action: []impl.Stm{emit(num(j))}})
	}
	return c
}

func TestPromise6FirstGuardThatLets(t *testing.T) {
	lim := impl.Limits{Sigs: 1}
	order := []int{1, 3, 0, 2}
	for set := range 16 {
		var guards [][]impl.Item
		for j := range 4 {
			guards = append(guards, code(num(set>>j&1*-7)))
		}
		c := guarded(guards...)
		want := outcome{leaf: 1}
		for _, j := range order {
			if set>>j&1 == 1 {
				want = outcome{j + 1, impl.Bank{}, []impl.Effect{{Kind: 2, Val: j}}, true}
				break
			}
		}
		sameOutcome(t, set, dispatch(c, lim, 1, impl.Bank{}, impl.Event{}), want)
	}
	sameOutcome(t, "empty guards", dispatch(guarded(nil, []impl.Item{}, nil, nil), lim, 1, impl.Bank{}, impl.Event{}),
		outcome{2, impl.Bank{}, []impl.Effect{{Kind: 2, Val: 1}}, true})
}

func TestPromise6GuardsLetAtAllButZero(t *testing.T) {
	c := guarded(code(op(impl.OpArg)))
	for _, n := range edgeNumbers() {
		got := dispatch(c, impl.Limits{Sigs: 1}, 2, impl.Bank{}, impl.Event{Arg: n})
		if got.handled != (n != 0) {
			t.Errorf("%d: got %v", n, got)
		}
	}
}

// The guards look at a variable that exits, action and entries set, and at Arg.
func TestPromise6GuardsSeeTheBankBefore(t *testing.T) {
	c := guarded(
		code(num(1)),
		code(variable(0), op(impl.OpArg), op(impl.OpEq)),
		nil,
		code(variable(0), op(impl.OpArg), num(1), op(impl.OpAdd), op(impl.OpEq)),
	)
	for i := range c.States {
		c.States[i].Entry = []impl.Stm{set(0, num(50))}
		c.States[i].Exit = []impl.Stm{set(0, num(60))}
	}
	for j := range c.Trans {
		c.Trans[j].Action = []impl.Stm{emit(variable(0)), set(0, num(70)), emit(variable(0))}
	}
	lim := impl.Limits{Sigs: 1, Vars: 1}
	b := impl.Bank{Kinds: []int{impl.KindI16}, Vals: []int{5}}
	after := impl.Bank{Kinds: []int{impl.KindI16}, Vals: []int{50}}
	effects := []impl.Effect{{Kind: 2, Val: 60}, {Kind: 2, Val: 70}}
	for arg, next := range map[int]int{5: 2, 4: 4, 50: 1, 60: 1, 70: 1, 49: 1, 59: 1, 69: 1, 6: 1, 0: 1} {
		sameOutcome(t, arg, dispatch(c, lim, 1, b, impl.Event{Arg: arg}), outcome{next, after, effects, true})
	}
}

// A signal has its own transitions only, and those of a state that the leaf isn't in have no say.
func TestPromise6OtherSignalsAndStates(t *testing.T) {
	c := stepTree()
	c.Trans = []impl.Trans{{From: 1, Sig: 0, Target: 9}, {From: 9, Sig: 0, Target: 1}, {From: 5, Sig: 1, Target: -1}, {From: 5, Sig: 0, Target: 8}}
	c = told(c)
	lim := impl.Limits{Sigs: 2}
	for leaf, want := range map[int][]int{2: {202, 201, 300, 109}, 9: {209, 301, 101, 103}, 6: {206, 205, 303, 108}, 8: {}} {
		same(t, "signal 0", emitted(dispatch(c, lim, leaf, impl.Bank{}, impl.Event{Sig: 0}).effects), want)
	}
	for leaf, want := range map[int][]int{2: {}, 9: {}, 6: {302}, 7: {302}, 8: {}} {
		same(t, "signal 1", emitted(dispatch(c, lim, leaf, impl.Bank{}, impl.Event{Sig: 1}).effects), want)
	}
}

func TestPromise6EveryTransitionOfEverySmallTree(t *testing.T) {
	lim := impl.Limits{Sigs: 1}
	for states := 1; states <= 5; states++ {
		everyTree(states, func(c impl.Chart) {
			for from := range states {
				for target := -1; target < states; target++ {
					c.Trans = []impl.Trans{{From: from, Target: target}}
					chart := told(c)
					for _, leaf := range leavesOf(c) {
						sameOutcome(t, [2]int{from, target}, dispatch(chart, lim, leaf, impl.Bank{}, impl.Event{}), wantStep(chart, leaf, impl.Bank{}, impl.Event{}))
					}
				}
			}
			if t.Failed() {
				t.Fatalf("in %v", c.States)
			}
		})
	}
}

// Each chart is booted and walked for some steps, and each step is held against 3.1.
func TestPromise6AnyChart(t *testing.T) {
	r := fixedRandom()
	handled := 0
	for range 500 {
		lim := impl.Limits{Objs: 1 + r.Intn(3), Sigs: 1 + r.Intn(4), Timers: 1 + r.Intn(3), Vars: 1 + r.Intn(5)}
		c := busyChart(r, 1+r.Intn(30), lim)
		b := bankOf(r, lim.Vars)
		now := boot(c, lim, b)
		sameOutcome(t, "boot", now, wantBoot(c, b))
		for range 12 {
			e := impl.Event{Sig: r.Intn(lim.Sigs), Arg: anyNumber(r)}
			next := dispatch(c, lim, now.leaf, now.bank, e)
			sameOutcome(t, e, next, wantStep(c, now.leaf, now.bank, e))
			if !slices.Contains(leavesOf(c), next.leaf) || !impl.BankOK(next.bank) || !slices.Equal(next.bank.Kinds, b.Kinds) {
				t.Errorf("a leaf or a bank that isn't one: %v", next)
			}
			if t.Failed() {
				t.Fatalf("%v %v %v", c, lim, now)
			}
			handled += one(next.handled)
			now = next
		}
	}
	if handled < 1500 {
		t.Errorf("%d events handled only", handled)
	}
}

// Compile's rows and Dispatch's steps go together: the first row whose guard lets is the step.
func TestPromise6StepsFollowTheRows(t *testing.T) {
	r := fixedRandom()
	for range 100 {
		lim := smallLimits()
		c := busyChart(r, 20, lim)
		b := bankOf(r, 1)
		table := impl.Compile(c, lim)
		for l, leaf := range table.Leaves {
			for sig := range lim.Sigs {
				e := impl.Event{Sig: sig, Arg: anyNumber(r)}
				want := outcome{leaf: leaf, bank: b}
				cell := l*lim.Sigs + sig
				for _, row := range table.Rows[table.Start[cell]:table.Start[cell+1]] {
					if guard := c.Trans[row.Trans].Guard; len(guard) == 0 || impl.Eval(guard, b, e.Arg) != 0 {
						want = along(c, row, b, e.Arg)
						break
					}
				}
				sameOutcome(t, cell, dispatch(c, lim, leaf, b, e), want)
			}
		}
	}
}

func TestPromise6GreatestStep(t *testing.T) {
	c := chainChart(16)
	full := slices.Repeat([]impl.Stm{set(31, variable(31), num(1), op(impl.OpAdd)), emit(variable(31))}, 25)
	for i := range c.States {
		c.States[i].Entry, c.States[i].Exit = full, full
	}
	c.Trans = []impl.Trans{{From: 0, Sig: 63, Target: 15, Guard: chain(200), Action: full}}
	lim := greatest(32)
	b := impl.Bank{Kinds: slices.Repeat([]int{impl.KindU8}, 32), Vals: slices.Repeat([]int{7}, 32)}
	e := impl.Event{Sig: 63, Arg: math.MinInt64}
	sameOutcome(t, "an odd number of Nots", dispatch(c, lim, 15, b, e), outcome{leaf: 15, bank: b})
	c.Trans[0].Guard = chain(199)
	got := dispatch(c, lim, 15, b, e)
	sameOutcome(t, "greatest step", got, wantStep(c, 15, b, e))
	if !got.handled || len(got.effects) != 33*25 || got.bank.Vals[31] != (7+33*25)%256 {
		t.Errorf("%v, %d effects, %v", got.handled, len(got.effects), got.bank)
	}
}

func TestPromise6FixedAnswersOfChartsAndLimits(t *testing.T) {
	for what, c := range wrongCharts() {
		sameOutcome(t, what, boot(c, smallLimits(), smallBank()), noOutcome())
		for leaf := -1; leaf < 8; leaf++ {
			sameOutcome(t, what, dispatch(c, smallLimits(), leaf, smallBank(), impl.Event{}), noOutcome())
		}
	}
	for _, lim := range wrongLimits() {
		for vars := range 3 {
			b := bankOf(fixedRandom(), vars)
			sameOutcome(t, lim, boot(smallChart(), lim, b), noOutcome())
			sameOutcome(t, lim, dispatch(smallChart(), lim, 2, b, impl.Event{}), noOutcome())
		}
	}
}

func TestPromise6FixedAnswersOfBanks(t *testing.T) {
	c, lim := told(stepTree()), smallLimits()
	for what, b := range wrongBanks() {
		sameOutcome(t, what, boot(c, lim, b), noOutcome())
		sameOutcome(t, what, dispatch(c, lim, 2, b, impl.Event{}), noOutcome())
	}
	lim.Vars = 0
	sameOutcome(t, "one variable too many", boot(c, lim, smallBank()), noOutcome())
	sameOutcome(t, "one variable too many", dispatch(c, lim, 2, smallBank(), impl.Event{}), noOutcome())
	for _, vars := range []int{0, 1, 31, 32} {
		b := bankOf(fixedRandom(), vars)
		for n := -1; n <= 34; n++ {
			lim.Vars = n
			if got := boot(c, lim, b); (got.leaf == 6) != (n == vars) || got.leaf == -1 != (n != vars) {
				t.Errorf("%d variables for %d: got %v", vars, n, got)
			}
			if got := dispatch(c, lim, 9, b, impl.Event{}); (got.leaf == 9) != (n == vars) || got.leaf == -1 != (n != vars) {
				t.Errorf("%d variables for %d: got %v", vars, n, got)
			}
		}
	}
}

func TestPromise6FixedAnswersOfLeavesAndSignals(t *testing.T) {
	c := stepTree()
	for sig := range 2 {
		c.Trans = append(c.Trans, impl.Trans{From: 0, Sig: sig, Target: 0})
	}
	c = told(c)
	lim, b := smallLimits(), smallBank()
	for _, leaf := range append(wrongIDs(10), -1, 0, 1, 4, 5) {
		for sig := range 2 {
			sameOutcome(t, leaf, dispatch(c, lim, leaf, b, impl.Event{Sig: sig}), noOutcome())
		}
	}
	for _, leaf := range leavesOf(c) {
		for _, sig := range append(wrongIDs(2), -1) {
			sameOutcome(t, sig, dispatch(c, lim, leaf, b, impl.Event{Sig: sig}), noOutcome())
		}
		if got := dispatch(c, lim, leaf, b, impl.Event{Sig: 1}); !got.handled || got.leaf != 6 {
			t.Errorf("leaf %d: got %v", leaf, got)
		}
	}
	for _, sig := range []int{-1, 0, 1, 64} {
		sameOutcome(t, sig, dispatch(treeChart(-1), impl.Limits{}, 0, impl.Bank{}, impl.Event{Sig: sig}), noOutcome())
	}
	if got := dispatch(treeChart(-1), greatest(0), 0, impl.Bank{}, impl.Event{Sig: 63}); got.leaf != 0 {
		t.Errorf("signal 63 of 64: got %v", got)
	}
	sameOutcome(t, "signal 64 of 64", dispatch(treeChart(-1), greatest(0), 0, impl.Bank{}, impl.Event{Sig: 64}), noOutcome())
}

func TestPromise6NewMemoryAndNothingWritten(t *testing.T) {
	r := fixedRandom()
	for range 200 {
		lim := smallLimits()
		lim.Vars = 1 + r.Intn(4)
		c, b := busyChart(r, 20, lim), bankOf(r, lim.Vars)
		before, bank := copyChart(c), cloneBank(b)
		first := boot(c, lim, b)
		e := impl.Event{Sig: r.Intn(2), Arg: r.Intn(9)}
		next := dispatch(c, lim, first.leaf, b, e)
		unchanged(t, "the chart", c, before)
		unchanged(t, "the bank", b, bank)
		apart(t, "banks", b.Kinds, b.Vals, first.bank.Kinds, first.bank.Vals, next.bank.Kinds, next.bank.Vals)
		for i := range next.effects {
			next.effects[i] = impl.Effect{Kind: 99}
		}
		unchanged(t, "the chart", c, before)
		sameOutcome(t, "asked again", dispatch(c, lim, first.leaf, bank, e), wantStep(c, first.leaf, bank, e))
	}
}

func TestPromise6OneListAsKindsAndValues(t *testing.T) {
	list := []int{4, 4}
	b := impl.Bank{Kinds: list, Vals: list}
	c := treeChart(-1)
	c.States[0].Entry = []impl.Stm{set(0, num(1))}
	c.Trans = []impl.Trans{{Target: 0}}
	lim := impl.Limits{Sigs: 1, Vars: 2}
	want := impl.Bank{Kinds: []int{4, 4}, Vals: []int{1, 4}}
	first, next := boot(c, lim, b), dispatch(c, lim, 0, b, impl.Event{})
	sameOutcome(t, "boot", first, outcome{0, want, nil, false})
	sameOutcome(t, "step", next, outcome{0, want, nil, true})
	same(t, "the argument", list, []int{4, 4})
	apart(t, "banks", list, first.bank.Kinds, first.bank.Vals, next.bank.Kinds, next.bank.Vals)
}
