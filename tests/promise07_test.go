package tests

import (
	"testing"

	"loop.example/s0063/impl"
)

// wantUnhandled asks for a step that changes nothing.
func wantUnhandled(t *testing.T, what any, c impl.Chart, lim impl.Limits, leaf int, b impl.Bank, e impl.Event) {
	t.Helper()
	before, bank := copyChart(c), cloneBank(b)
	got := dispatch(c, lim, leaf, b, e)
	sameOutcome(t, what, got, outcome{leaf: leaf, bank: bank})
	unchanged(t, "the chart", c, before)
	unchanged(t, "the bank", b, bank)
	apart(t, what, b.Kinds, b.Vals, got.bank.Kinds, got.bank.Vals)
}

func TestPromise7NoTransition(t *testing.T) {
	r := fixedRandom()
	c := smallChart()
	c.Trans = nil
	lim := smallLimits()
	for _, leaf := range leavesOf(c) {
		for sig := range lim.Sigs {
			for _, arg := range edgeNumbers() {
				wantUnhandled(t, "no transition", c, lim, leaf, bankOf(r, 1), impl.Event{Sig: sig, Arg: arg})
			}
		}
	}
	wantUnhandled(t, "one state", treeChart(-1), impl.Limits{Sigs: 1}, 0, impl.Bank{}, impl.Event{})
}

// The states that the leaf is in have transitions on signal 2 alone, all others on the other signals.
func TestPromise7NoneOfTheLeafOnTheSignal(t *testing.T) {
	r := fixedRandom()
	lim := impl.Limits{Objs: 1, Sigs: 4, Timers: 1, Vars: 1}
	for _, leaf := range leavesOf(stepTree()) {
		above := map[int]bool{}
		c := stepTree()
		for _, state := range upFrom(c, leaf) {
			above[state] = true
		}
		for from := range c.States {
			for sig := range 4 {
				if above[from] == (sig == 2) {
					c.Trans = append(c.Trans, impl.Trans{From: from, Sig: sig, Target: from}, impl.Trans{From: from, Sig: sig, Target: -1})
				}
			}
		}
		c = told(c)
		wantUnhandled(t, leaf, c, lim, leaf, bankOf(r, 1), impl.Event{Sig: 3})
		wantUnhandled(t, leaf, c, lim, leaf, bankOf(r, 1), impl.Event{Sig: 0, Arg: 7})
		if got := dispatch(c, lim, leaf, bankOf(r, 1), impl.Event{Sig: 2}); !got.handled || len(got.effects) != 3 {
			t.Errorf("leaf %d on signal 2: got %v", leaf, got)
		}
	}
}

func TestPromise7NoGuardLets(t *testing.T) {
	lim := impl.Limits{Sigs: 1, Vars: 2}
	c := stepTree()
	for from := range c.States {
		c.Trans = append(c.Trans,
			impl.Trans{From: from, Target: 0, Guard: code(num(0))},
			impl.Trans{From: from, Target: -1, Guard: code(op(impl.OpArg), num(5), op(impl.OpLt))},
			impl.Trans{From: from, Target: from, Guard: code(variable(0))},
			impl.Trans{From: from, Target: 9, Guard: code(variable(1), op(impl.OpArg), op(impl.OpEq))})
	}
	c = told(c)
	for i := range c.States {
		c.States[i].Exit = append(c.States[i].Exit, set(0, num(1)), set(1, op(impl.OpArg)))
	}
	for j := range c.Trans {
		c.Trans[j].Action = append(c.Trans[j].Action, set(0, num(1)))
	}
	for _, leaf := range leavesOf(c) {
		b := func() impl.Bank { return impl.Bank{Kinds: []int{impl.KindU8, impl.KindI32}, Vals: []int{0, 4}} }
		wantUnhandled(t, leaf, c, lim, leaf, b(), impl.Event{Arg: 5})
		wantUnhandled(t, leaf, c, lim, leaf, b(), impl.Event{Arg: 1000})
		if got := dispatch(c, lim, leaf, b(), impl.Event{Arg: 4}); !got.handled || got.leaf != leaf {
			t.Errorf("leaf %d: got %v", leaf, got)
		}
	}
}

// A transition that is taken but has nothing to do is handled all the same.
func TestPromise7HandledWithoutAChange(t *testing.T) {
	c := treeChart(-1, 0)
	c.Trans = []impl.Trans{{From: 0, Sig: 0, Target: -1}, {From: 1, Sig: 1, Target: 1}}
	lim := impl.Limits{Sigs: 3, Vars: 1}
	for sig := range 2 {
		sameOutcome(t, sig, dispatch(c, lim, 1, smallBank(), impl.Event{Sig: sig}), outcome{1, smallBank(), nil, true})
	}
	wantUnhandled(t, "signal 2", c, lim, 1, smallBank(), impl.Event{Sig: 2})
}

func TestPromise7AnyChart(t *testing.T) {
	r := fixedRandom()
	seen := 0
	for range 700 {
		lim := impl.Limits{Objs: 1, Sigs: 1 + r.Intn(4), Timers: 1, Vars: 1 + r.Intn(4)}
		c := busyChart(r, 1+r.Intn(20), lim)
		for _, leaf := range leavesOf(c) {
			b, e := bankOf(r, lim.Vars), impl.Event{Sig: r.Intn(lim.Sigs), Arg: anyNumber(r)}
			if wantStep(c, leaf, b, e).handled {
				continue
			}
			seen++
			wantUnhandled(t, e, c, lim, leaf, b, e)
		}
	}
	if seen < 300 {
		t.Errorf("%d unhandled events only", seen)
	}
}
