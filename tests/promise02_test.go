package tests

import (
	"math"
	"math/rand"
	"testing"

	"loop.example/s0063/impl"
)

func greatest(vars int) impl.Limits {
	return impl.Limits{Objs: impl.MaxObjs, Sigs: impl.MaxSigs, Timers: impl.MaxTimers, Vars: vars}
}

// stmRow says which fields a kind has and below which numbers they stay; 1 is that of a field that isn't named.
type stmRow struct {
	a, b int
	code bool
}

func stmRows(lim impl.Limits) []stmRow {
	return []stmRow{
		1: {lim.Vars, 1, true},
		2: {1, 1, true},
		3: {lim.Objs, lim.Sigs, true},
		4: {lim.Objs, lim.Sigs, true},
		5: {1, lim.Sigs, true},
		6: {1, 1, false},
		7: {1, 1, false},
		8: {lim.Timers, 1000000000, true},
		9: {lim.Timers, 1, false},
	}
}

func rightStm(kind int) impl.Stm {
	s := impl.Stm{Kind: kind}
	if stmRows(greatest(1))[kind].code {
		s.Code = code(num(1))
	}
	return s
}

func TestPromise2EveryKindAtItsBounds(t *testing.T) {
	for _, lim := range []impl.Limits{{Objs: 2, Sigs: 3, Timers: 4, Vars: 5}, {Objs: 1, Sigs: 1, Timers: 1, Vars: 1}, {}, greatest(32)} {
		for kind := 1; kind <= 9; kind++ {
			row := stmRows(lim)[kind]
			for _, a := range []int{math.MinInt64, -1, 0, 1, row.a - 1, row.a, row.a + 1, math.MaxInt64} {
				for _, b := range []int{math.MinInt64, -1, 0, 1, row.b - 1, row.b, row.b + 1, math.MaxInt64} {
					s := rightStm(kind)
					s.A, s.B = a, b
					want := 0 <= a && a < row.a && 0 <= b && b < row.b
					if got := impl.StmsOK([]impl.Stm{s}, lim); got != want {
						t.Errorf("%v in %v: got %v, want %v", s, lim, got, want)
					}
				}
			}
		}
	}
}

func TestPromise2CodeOfEveryKind(t *testing.T) {
	lim := impl.Limits{Objs: 1, Sigs: 1, Timers: 1, Vars: 1}
	for kind := 1; kind <= 9; kind++ {
		has := stmRows(lim)[kind].code
		for i, c := range []struct {
			code  []impl.Item
			right bool
		}{
			{nil, !has},
			{[]impl.Item{}, !has},
			{code(variable(0)), has},
			{code(variable(1)), false},
			{chain(200), has},
			{chain(201), false},
			{code(num(1), num(2)), false},
			{code(op(impl.OpAdd)), false},
		} {
			if got := impl.StmsOK([]impl.Stm{{Kind: kind, Code: c.code}}, lim); got != c.right {
				t.Errorf("kind %d, code %d: got %v", kind, i, got)
			}
		}
	}
}

func TestPromise2WrongKindsAndLengths(t *testing.T) {
	for _, kind := range []int{math.MinInt64, -1, 0, 10, 11, math.MaxInt64} {
		for _, items := range [][]impl.Item{nil, code(num(1))} {
			if impl.StmsOK([]impl.Stm{{Kind: kind, Code: items}}, greatest(1)) {
				t.Errorf("kind %d isn't one", kind)
			}
		}
	}
	list := make([]impl.Stm, impl.MaxStms)
	for i := range list {
		list[i] = rightStm(1 + i%9)
	}
	if !impl.StmsOK(nil, greatest(1)) || !impl.StmsOK([]impl.Stm{}, impl.Limits{}) || !impl.StmsOK(list, greatest(1)) {
		t.Error("none and MaxStms statements are OK")
	}
	if impl.StmsOK(append(list, rightStm(6)), greatest(1)) {
		t.Error("one more than MaxStms isn't OK")
	}
	list[49].Kind = 0
	if impl.StmsOK(list, greatest(1)) {
		t.Error("the last statement counts, too")
	}
}

func TestPromise2BoundsOfLimits(t *testing.T) {
	for n, want := range map[int][4]bool{
		math.MinInt64: {},
		-1:            {},
		0:             {true, true, true, true},
		32:            {true, true, true, true},
		33:            {true, true, true, false},
		64:            {true, true, true, false},
		65:            {false, false, true, false},
		200:           {false, false, true, false},
		201:           {},
		math.MaxInt64: {},
	} {
		got := [4]bool{
			impl.StmsOK(nil, impl.Limits{Objs: n}),
			impl.StmsOK(nil, impl.Limits{Sigs: n}),
			impl.StmsOK(nil, impl.Limits{Timers: n}),
			impl.StmsOK(nil, impl.Limits{Vars: n}),
		}
		if got != want {
			t.Errorf("%d: got %v, want %v", n, got, want)
		}
	}
}

func TestPromise2SetsConvertAtEveryKind(t *testing.T) {
	for _, row := range kindRows() {
		for _, n := range edgeNumbers() {
			b := impl.Bank{Kinds: []int{impl.KindI8, row.kind, impl.KindI8}, Vals: []int{-3, row.most, 4}}
			after, effects := impl.Exec([]impl.Stm{{Kind: impl.StmSet, A: 1, Code: code(op(impl.OpArg))}}, b, n)
			same(t, "kinds", after.Kinds, b.Kinds)
			same(t, "values", after.Vals, []int{-3, wantConv(n, row.kind), 4})
			same(t, "effects", effects, nil)
		}
	}
}

func TestPromise2EffectOfEveryKind(t *testing.T) {
	b := impl.Bank{Kinds: []int{impl.KindI64}, Vals: []int{-40}}
	value := code(variable(0), op(impl.OpArg), op(impl.OpAdd))
	after, effects := impl.Exec([]impl.Stm{
		{Kind: impl.StmDisarm, A: 199},
		{Kind: impl.StmArm, A: 199, B: 999999999, Code: value},
		{Kind: impl.StmRecall},
		{Kind: impl.StmDefer},
		{Kind: impl.StmPublish, B: 63, Code: value},
		{Kind: impl.StmFront, A: 63, B: 62, Code: value},
		{Kind: impl.StmPost, A: 62, B: 63, Code: value},
		{Kind: impl.StmEmit, Code: value},
		{Kind: impl.StmSet, A: 0, Code: value},
		{Kind: impl.StmEmit, Code: value},
	}, b, 1)
	same(t, "effects", effects, []impl.Effect{{Kind: 9, A: 199}, {Kind: 8, A: 199, B: 999999999, Val: -39}, {Kind: 7}, {Kind: 6}, {Kind: 5, B: 63, Val: -39}, {Kind: 4, A: 63, B: 62, Val: -39},
		{Kind: 3, A: 62, B: 63, Val: -39}, {Kind: 2, Val: -39}, {Kind: 2, Val: -38}})
	same(t, "kinds", after.Kinds, []int{impl.KindI64})
	same(t, "values", after.Vals, []int{-39})
}

func TestPromise2EachSeesTheSetsBefore(t *testing.T) {
	b := impl.Bank{Kinds: []int{impl.KindU8, impl.KindI16}, Vals: []int{250, 0}}
	step := impl.Stm{Kind: impl.StmSet, A: 0, Code: code(variable(0), num(3), op(impl.OpAdd))}
	show := impl.Stm{Kind: impl.StmEmit, Code: code(variable(0))}
	after, effects := impl.Exec([]impl.Stm{show, step, show, step, show, {Kind: impl.StmSet, A: 1, Code: code(variable(0), num(1), op(impl.OpSub))}, step, show}, b, 0)
	same(t, "values", after.Vals, []int{3, -1})
	same(t, "effects", effects, []impl.Effect{{Kind: 2, Val: 250}, {Kind: 2, Val: 253}, {Kind: 2, Val: 0}, {Kind: 2, Val: 3}})
}

// anyStms gives a right list, and the values and effects after it.
func anyStms(r *rand.Rand, b impl.Bank, arg int) ([]impl.Stm, []int, []impl.Effect) {
	vals := append([]int{}, b.Vals...)
	var list []impl.Stm
	var effects []impl.Effect
	for range r.Intn(impl.MaxStms + 1) {
		s := impl.Stm{Kind: 1 + r.Intn(9)}
		row := stmRows(greatest(len(vals)))[s.Kind]
		if row.a == 0 {
			continue
		}
		s.A, s.B = r.Intn(row.a), r.Intn(row.b)
		value := 0
		if row.code {
			s.Code, value = anyCode(r, 1+r.Intn(20), vals, arg)
		}
		list = append(list, s)
		if s.Kind == impl.StmSet {
			vals[s.A] = wantConv(value, b.Kinds[s.A])
		} else {
			effects = append(effects, impl.Effect{Kind: s.Kind, A: s.A, B: s.B, Val: value})
		}
	}
	return list, vals, effects
}

func TestPromise2AnyList(t *testing.T) {
	r := fixedRandom()
	for range 2000 {
		b, arg := anyBank(r), anyNumber(r)
		list, vals, effects := anyStms(r, b, arg)
		if !impl.StmsOK(list, greatest(len(b.Vals))) {
			t.Fatalf("a right list refused: %v", list)
		}
		after, got := impl.Exec(list, b, arg)
		if !impl.BankOK(after) {
			t.Errorf("the bank isn't OK: %v", after)
		}
		same(t, "kinds", after.Kinds, b.Kinds)
		same(t, "values", after.Vals, vals)
		same(t, "effects", got, effects)
		if t.Failed() {
			t.Fatalf("Exec(%v, %v, %d)", list, b, arg)
		}
	}
}

func refused(t *testing.T, what any, list []impl.Stm, b impl.Bank) {
	t.Helper()
	after, effects := impl.Exec(list, b, 7)
	if len(after.Kinds) != 0 || len(after.Vals) != 0 || len(effects) != 0 {
		t.Errorf("%v: got %v, %v", what, after, effects)
	}
}

func TestPromise2FixedAnswer(t *testing.T) {
	ok := impl.Bank{Kinds: []int{impl.KindU8}, Vals: []int{9}}
	emit := rightStm(2)
	for i, b := range []impl.Bank{
		{Kinds: []int{impl.KindU8}},
		{Vals: []int{9}},
		{Kinds: []int{impl.KindU8, impl.KindU8}, Vals: []int{9}},
		{Kinds: []int{impl.KindU8}, Vals: []int{256}},
		{Kinds: []int{0}, Vals: []int{0}},
		{Kinds: []int{8}, Vals: []int{0}},
		{Kinds: make([]int, 33), Vals: make([]int, 33)},
	} {
		refused(t, i, []impl.Stm{emit}, b)
		refused(t, i, nil, b)
	}
	one := code(num(1))
	for _, s := range []impl.Stm{
		{},
		{Kind: 10, Code: one},
		{Kind: 1, A: 1, Code: one},
		{Kind: 1, B: 1, Code: one},
		{Kind: 2},
		{Kind: 2, A: 1, Code: one},
		{Kind: 2, Code: code(variable(1))},
		{Kind: 3, A: 64, Code: one},
		{Kind: 3, B: 64, Code: one},
		{Kind: 4, A: -1, Code: one},
		{Kind: 4, B: 64, Code: one},
		{Kind: 5, A: 1, Code: one},
		{Kind: 5, B: 64, Code: one},
		{Kind: 6, Code: one},
		{Kind: 7, B: 1},
		{Kind: 8, A: 200, Code: one},
		{Kind: 8, B: -1, Code: one},
		{Kind: 8, B: 1000000000, Code: one},
		{Kind: 9, A: 200},
		{Kind: 9, B: 1},
	} {
		refused(t, s, []impl.Stm{emit, s}, ok)
	}
	full := make([]impl.Stm, impl.MaxStms)
	for i := range full {
		full[i] = emit
	}
	if _, effects := impl.Exec(full, ok, 7); len(effects) != impl.MaxStms {
		t.Errorf("MaxStms statements: %d effects", len(effects))
	}
	refused(t, "too many", append(full, emit), ok)
	refused(t, "a variable of none", []impl.Stm{rightStm(1)}, impl.Bank{})
}

func TestPromise2NewMemoryAndNothingWritten(t *testing.T) {
	b := impl.Bank{Kinds: []int{impl.KindI8, 66}, Vals: []int{5, 55}}
	short := impl.Bank{Kinds: b.Kinds[:1], Vals: b.Vals[:1]}
	items := code(num(4), num(77))
	list := []impl.Stm{{Kind: impl.StmSet, Code: items[:1]}, {Kind: impl.StmEmit, Code: items[:1]}, {Kind: 99}}
	after, effects := impl.Exec(list[:2], short, 1)
	same(t, "values", after.Vals, []int{4})
	same(t, "effects", effects, []impl.Effect{{Kind: 2, Val: 4}})
	_, _ = append(after.Kinds, 1), append(after.Vals, 2)
	same(t, "values beside kinds that grew", after.Vals, []int{4})
	same(t, "kinds beside values that grew", after.Kinds, []int{impl.KindI8})
	after.Kinds[0], after.Vals[0] = 3, 3
	same(t, "the argument's kinds", b.Kinds, []int{impl.KindI8, 66})
	same(t, "the argument's values", b.Vals, []int{5, 55})
	same(t, "the argument's code", items, code(num(4), num(77)))
	if list[0].Kind != impl.StmSet || list[1].Kind != impl.StmEmit || list[2].Kind != 99 {
		t.Errorf("the list was written into: %v", list)
	}
	again, _ := impl.Exec(nil, short, 1)
	again.Kinds[0], again.Vals[0] = 3, 3
	same(t, "kinds after no statement", b.Kinds, []int{impl.KindI8, 66})
	same(t, "values after no statement", b.Vals, []int{5, 55})
}
