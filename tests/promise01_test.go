package tests

import (
	"math"
	"testing"

	"loop.example/s0063/impl"
)

func twoLong(left, right int) impl.Bank {
	return impl.Bank{Kinds: []int{impl.KindI64, impl.KindI64}, Vals: []int{left, right}}
}

func TestPromise1ConstantsAreTheDocuments(t *testing.T) {
	same(t, "bounds", []int{impl.MaxVars, impl.MaxCode, impl.MaxStms, impl.MaxObjs, impl.MaxSigs, impl.MaxTimers, impl.MaxNumber}, []int{32, 200, 50, 64, 64, 200, 999999999})
	same(t, "kinds", []int{impl.KindI8, impl.KindI16, impl.KindI32, impl.KindI64, impl.KindU8, impl.KindU16, impl.KindU32}, []int{1, 2, 3, 4, 5, 6, 7})
	same(t, "ops", []int{impl.OpNum, impl.OpVar, impl.OpArg, impl.OpAdd, impl.OpSub, impl.OpMul, impl.OpDiv, impl.OpMod, impl.OpEq, impl.OpLt, impl.OpAnd, impl.OpOr, impl.OpNot,
		impl.OpBitAnd, impl.OpBitOr, impl.OpBitXor, impl.OpShl, impl.OpShr, impl.OpConv}, []int{1, 2, 3, 4, 5, 6, 7, 8, 9, 10, 11, 12, 13, 14, 15, 16, 17, 18, 19})
	same(t, "statements", []int{impl.StmSet, impl.StmEmit, impl.StmPost, impl.StmFront, impl.StmPublish, impl.StmDefer, impl.StmRecall, impl.StmArm, impl.StmDisarm}, []int{1, 2, 3, 4, 5, 6, 7, 8, 9})
}

func TestPromise1EveryBinaryOpAtEveryEdge(t *testing.T) {
	items := code(variable(0), variable(1), op(0))
	for _, number := range binaryOps() {
		items[2].Op = number
		for _, left := range edgeNumbers() {
			for _, right := range edgeNumbers() {
				if got, want := impl.Eval(items, twoLong(left, right), 5), wantBinary(number, left, right); got != want {
					t.Errorf("op %d of %d and %d: got %d, want %d", number, left, right, got, want)
				}
			}
		}
	}
}

func TestPromise1EveryCountOfAShift(t *testing.T) {
	for count := -130; count <= 130; count++ {
		for _, left := range edgeNumbers() {
			for _, number := range []int{17, 18} {
				if got, want := impl.Eval(code(variable(0), variable(1), op(number)), twoLong(left, count), 0), wantBinary(number, left, count); got != want {
					t.Errorf("op %d of %d, count %d: got %d, want %d", number, left, count, got, want)
				}
			}
		}
	}
}

func TestPromise1NamedEdges(t *testing.T) {
	const least, most = math.MinInt64, math.MaxInt64
	rows := []struct{ number, left, right, want int }{
		{7, least, -1, least},
		{8, least, -1, 0},
		{7, least, 0, 0},
		{8, least, 0, 0},
		{7, -7, 2, -3},
		{7, 7, -2, -3},
		{8, -7, 2, -1},
		{8, 7, -2, 1},
		{4, most, 1, least},
		{5, least, 1, most},
		{6, least, -1, least},
		{10, least, most, 1},
		{10, 3, 3, 0},
		{17, 1, -1, 0},
		{17, 1, 0, 1},
		{17, 1, 63, least},
		{17, 1, 64, 0},
		{17, -1, least, 0},
		{18, -9, -1, -1},
		{18, -9, 0, -9},
		{18, -9, 1, -5},
		{18, least, 63, -1},
		{18, most, 62, 1},
		{18, -9, 64, -1},
		{18, 9, 64, 0},
		{18, 9, -1, 0},
		{18, 0, -1, 0},
		{18, -1, most, -1},
	}
	for _, row := range rows {
		if got := impl.Eval(code(variable(0), variable(1), op(row.number)), twoLong(row.left, row.right), 0); got != row.want {
			t.Errorf("op %d of %d and %d: got %d, want %d", row.number, row.left, row.right, got, row.want)
		}
	}
}

func TestPromise1ConversionsAndNot(t *testing.T) {
	for _, n := range edgeNumbers() {
		for _, row := range kindRows() {
			if got, want := impl.Eval(code(op(impl.OpArg), conv(row.kind)), impl.Bank{}, n), wantConv(n, row.kind); got != want {
				t.Errorf("%d to kind %d: got %d, want %d", n, row.kind, got, want)
			}
		}
		if got := impl.Eval(code(op(impl.OpArg), op(impl.OpNot)), impl.Bank{}, n); got != one(n == 0) {
			t.Errorf("not %d: got %d", n, got)
		}
	}
}

func TestPromise1OperandsWithoutOperands(t *testing.T) {
	for _, n := range []int{-impl.MaxNumber, -1, 0, 1, impl.MaxNumber} {
		if got := impl.Eval(code(num(n)), impl.Bank{}, 3); got != n {
			t.Errorf("number %d: got %d", n, got)
		}
	}
	var b impl.Bank
	for i := range impl.MaxVars {
		b.Kinds = append(b.Kinds, impl.KindU8)
		b.Vals = append(b.Vals, 100+i)
	}
	for i := range impl.MaxVars {
		if got := impl.Eval(code(variable(i)), b, 3); got != 100+i {
			t.Errorf("variable %d: got %d", i, got)
		}
	}
	for _, arg := range edgeNumbers() {
		if got := impl.Eval(code(op(impl.OpArg)), b, arg); got != arg {
			t.Errorf("argument %d: got %d", arg, got)
		}
	}
}

func TestPromise1AnyExpression(t *testing.T) {
	r := fixedRandom()
	for range 3000 {
		b, arg := anyBank(r), anyNumber(r)
		items, want := anyCode(r, 1+r.Intn(impl.MaxCode), b.Vals, arg)
		if !impl.BankOK(b) || !impl.CodeOK(items, len(b.Vals)) {
			t.Fatalf("right arguments refused: %v %v", b, items)
		}
		if got := impl.Eval(items, b, arg); got != want {
			t.Fatalf("Eval(%v, %v, %d): got %d, want %d", items, b, arg, got, want)
		}
	}
}

func TestPromise1Banks(t *testing.T) {
	if !impl.BankOK(impl.Bank{}) || !impl.BankOK(impl.Bank{Kinds: []int{}, Vals: []int{}}) {
		t.Error("the empty bank is OK")
	}
	for _, row := range kindRows() {
		for _, n := range edgeNumbers() {
			if got, want := impl.BankOK(impl.Bank{Kinds: []int{row.kind}, Vals: []int{n}}), row.least <= n && n <= row.most; got != want {
				t.Errorf("kind %d, value %d: got %v", row.kind, n, got)
			}
		}
	}
	for _, kind := range []int{math.MinInt64, -1, 0, 8, 9, math.MaxInt64} {
		if impl.BankOK(impl.Bank{Kinds: []int{kind}, Vals: []int{0}}) {
			t.Errorf("kind %d isn't one", kind)
		}
	}
	full := impl.Bank{Kinds: make([]int, impl.MaxVars), Vals: make([]int, impl.MaxVars)}
	for i := range full.Kinds {
		full.Kinds[i] = impl.KindI8
	}
	if !impl.BankOK(full) {
		t.Error("MaxVars variables are OK")
	}
	if impl.BankOK(impl.Bank{Kinds: append(full.Kinds, impl.KindI8), Vals: append(full.Vals, 0)}) {
		t.Error("one more than MaxVars isn't OK")
	}
	if impl.BankOK(impl.Bank{Kinds: full.Kinds, Vals: full.Vals[:31]}) || impl.BankOK(impl.Bank{Kinds: full.Kinds[:31], Vals: full.Vals}) {
		t.Error("lists of unequal length aren't OK")
	}
	full.Vals[31] = 128
	if impl.BankOK(full) {
		t.Error("the last value counts, too")
	}
}

func TestPromise1BoundsOfCode(t *testing.T) {
	for vars, want := range map[int]bool{math.MinInt64: false, -1: false, 0: true, 1: true, 32: true, 33: false, math.MaxInt64: false} {
		if got := impl.CodeOK(code(num(1)), vars); got != want {
			t.Errorf("%d variables: got %v", vars, got)
		}
	}
	for size, want := range map[int]bool{1: true, 2: true, 199: true, 200: true, 201: false, 5000: false} {
		if got := impl.CodeOK(chain(size), 0); got != want {
			t.Errorf("%d items: got %v", size, got)
		}
	}
	for n, want := range map[int]bool{-1000000000: false, -999999999: true, 999999999: true, 1000000000: false, math.MinInt64: false, math.MaxInt64: false} {
		if got := impl.CodeOK(code(num(n)), 0); got != want {
			t.Errorf("number %d: got %v", n, got)
		}
	}
	for i, want := range map[int]bool{math.MinInt64: false, -1: false, 0: true, 4: true, 5: false, 31: false, math.MaxInt64: false} {
		if got := impl.CodeOK(code(variable(i)), 5); got != want {
			t.Errorf("variable %d of 5: got %v", i, got)
		}
	}
	for kind := -2; kind <= 10; kind++ {
		if got, want := impl.CodeOK(code(num(1), conv(kind)), 0), 1 <= kind && kind <= 7; got != want {
			t.Errorf("conversion to kind %d: got %v", kind, got)
		}
	}
	if !impl.CodeOK(code(variable(31)), impl.MaxVars) || impl.CodeOK(code(variable(0)), 0) {
		t.Error("the last variable of MaxVars, the first of none")
	}
}

// operandsOf says the second column of the table in 1.2.
func operandsOf(number int) int {
	switch number {
	case 1, 2, 3:
		return 0
	case 13, 19:
		return 1
	}
	return 2
}

func TestPromise1EveryOpWithEveryNumberOfOperands(t *testing.T) {
	for number := -3; number <= 25; number++ {
		for given := 0; given <= 4; given++ {
			for val := -2; val <= 8; val++ {
				var items []impl.Item
				for range given {
					items = append(items, num(1))
				}
				items = append(items, impl.Item{Op: number, Val: val})
				valOK := val == 0 || number == 1 || number == 2 && val >= 0 && val < 4
				if number == 19 {
					valOK = 1 <= val && val <= 7
				}
				want := 1 <= number && number <= 19 && given == operandsOf(number) && valOK
				if got := impl.CodeOK(items, 4); got != want {
					t.Errorf("op %d, Val %d, %d operands: got %v, want %v", number, val, given, got, want)
				}
			}
		}
	}
}

func TestPromise1WrongShapes(t *testing.T) {
	add := op(impl.OpAdd)
	for i, items := range [][]impl.Item{
		nil,
		{},
		{num(1), num(2)},
		{num(1), num(2), num(3), add},
		{num(1), add, num(2)},
		{add, num(1), num(2)},
		{num(1), num(2), add, add},
		{op(impl.OpNot), num(1)},
		{num(1), num(2), add, num(3)},
		{op(math.MaxInt64)},
		{num(1), num(1), op(math.MinInt64)},
	} {
		if impl.CodeOK(items, 3) {
			t.Errorf("shape %d is wrong: %v", i, items)
		}
		if got := impl.Eval(items, twoLong(7, 7), 7); got != 0 {
			t.Errorf("shape %d: Eval gives %d", i, got)
		}
	}
}

func TestPromise1FixedAnswer(t *testing.T) {
	ok := impl.Bank{Kinds: []int{impl.KindU8}, Vals: []int{9}}
	if got := impl.Eval(code(variable(0)), ok, 1); got != 9 {
		t.Fatalf("right arguments: %d", got)
	}
	for i, b := range []impl.Bank{
		{Kinds: []int{impl.KindU8}},
		{Vals: []int{9}},
		{Kinds: []int{impl.KindU8, impl.KindU8}, Vals: []int{9}},
		{Kinds: []int{impl.KindU8}, Vals: []int{9, 9}},
		{Kinds: []int{impl.KindU8}, Vals: []int{256}},
		{Kinds: []int{impl.KindU8}, Vals: []int{-1}},
		{Kinds: []int{0}, Vals: []int{0}},
		{Kinds: []int{8}, Vals: []int{0}},
	} {
		if got := impl.Eval(code(num(5)), b, 1); got != 0 {
			t.Errorf("bank %d: got %d", i, got)
		}
	}
	for i, items := range [][]impl.Item{nil, {variable(1)}, {variable(-1)}, {num(impl.MaxNumber + 1)}, {num(-impl.MaxNumber - 1)}, {{Op: impl.OpArg, Val: 1}}, {num(5), conv(0)}, {num(5), conv(8)}, append(chain(200), op(impl.OpNot))} {
		if got := impl.Eval(items, ok, 1); got != 0 {
			t.Errorf("code %d: got %d", i, got)
		}
	}
}

func TestPromise1NothingIsWritten(t *testing.T) {
	items := code(variable(0), op(impl.OpArg), op(impl.OpAdd), num(77))
	b := impl.Bank{Kinds: []int{impl.KindI8, 66}, Vals: []int{5, 55}}
	short := impl.Bank{Kinds: b.Kinds[:1], Vals: b.Vals[:1]}
	if got := impl.Eval(items[:3], short, 6); got != 11 {
		t.Errorf("got %d", got)
	}
	same(t, "code", items, code(variable(0), op(impl.OpArg), op(impl.OpAdd), num(77)))
	same(t, "kinds", b.Kinds, []int{impl.KindI8, 66})
	same(t, "values", b.Vals, []int{5, 55})
}
