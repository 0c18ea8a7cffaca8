package tests

import (
	"math"
	"math/big"
	"math/rand"
	"slices"
	"testing"

	"loop.example/s0063/impl"
)

func num(n int) impl.Item      { return impl.Item{Op: impl.OpNum, Val: n} }
func variable(i int) impl.Item { return impl.Item{Op: impl.OpVar, Val: i} }
func conv(kind int) impl.Item  { return impl.Item{Op: impl.OpConv, Val: kind} }
func op(number int) impl.Item  { return impl.Item{Op: number} }

func code(items ...impl.Item) []impl.Item { return items }

// chain is a right expression of n items.
func chain(n int) []impl.Item {
	list := code(num(1))
	for len(list) < n {
		list = append(list, op(impl.OpNot))
	}
	return list
}

func same[T comparable](t *testing.T, what string, got, want []T) {
	t.Helper()
	if !slices.Equal(got, want) {
		t.Errorf("%s: got %v, want %v", what, got, want)
	}
}

type kindRow struct {
	kind, bits  int
	signed      bool
	least, most int
}

// kindRows is written from section 1.1 alone, with the numbers and not the names of the program.
func kindRows() []kindRow {
	return []kindRow{
		{1, 8, true, -128, 127},
		{2, 16, true, -32768, 32767},
		{3, 32, true, -2147483648, 2147483647},
		{4, 64, true, math.MinInt64, math.MaxInt64},
		{5, 8, false, 0, 255},
		{6, 16, false, 0, 65535},
		{7, 32, false, 0, 4294967295},
	}
}

// edgeNumbers are the places where a width, a sign or a count of a shift changes what comes out.
func edgeNumbers() []int {
	list := []int{-3, -2, -1, 0, 1, 2, 3, 7, 31, 32, 62, 63, 64, 65, -63, -64, -65, 0x0123456789abcdef, -0x0fedcba987654321}
	for _, row := range kindRows() {
		list = append(list, row.least, row.least+1, row.least-1, row.most, row.most-1, row.most+1)
	}
	slices.Sort(list)
	return slices.Compact(list)
}

// wrap reads the lowest bits of a number of any size, as 1.1 says it.
func wrap(n *big.Int, bits int, signed bool) int {
	size := new(big.Int).Lsh(big.NewInt(1), uint(bits))
	low := new(big.Int).Mod(n, size)
	if signed && low.Bit(bits-1) == 1 {
		low.Sub(low, size)
	}
	return int(low.Int64())
}

func wantConv(n, kind int) int {
	row := kindRows()[kind-1]
	return wrap(big.NewInt(int64(n)), row.bits, row.signed)
}

func one(holds bool) int {
	if holds {
		return 1
	}
	return 0
}

// wantBinary says the table of 1.2 in numbers without a width.
func wantBinary(number, left, right int) int {
	l, r, out := big.NewInt(int64(left)), big.NewInt(int64(right)), new(big.Int)
	switch number {
	case 4:
		out.Add(l, r)
	case 5:
		out.Sub(l, r)
	case 6:
		out.Mul(l, r)
	case 7, 8:
		if right == 0 {
			return 0
		}
		rest := new(big.Int)
		out.QuoRem(l, r, rest)
		if number == 8 {
			out = rest
		}
	case 9:
		return one(l.Cmp(r) == 0)
	case 10:
		return one(l.Cmp(r) < 0)
	case 11:
		return one(left != 0 && right != 0)
	case 12:
		return one(left != 0 || right != 0)
	case 14:
		out.And(l, r)
	case 15:
		out.Or(l, r)
	case 16:
		out.Xor(l, r)
	case 17:
		if right < 0 || right > 63 {
			return 0
		}
		out.Lsh(l, uint(right))
	case 18:
		if right < 0 || right > 63 {
			return -one(left < 0)
		}
		out.Rsh(l, uint(right))
	}
	return wrap(out, 64, true)
}

func binaryOps() []int {
	return []int{4, 5, 6, 7, 8, 9, 10, 11, 12, 14, 15, 16, 17, 18}
}

// fixedRandom gives the same numbers at every run.
func fixedRandom() *rand.Rand { return rand.New(rand.NewSource(63)) }

func anyNumber(r *rand.Rand) int {
	edges := edgeNumbers()
	if r.Intn(2) == 0 {
		return edges[r.Intn(len(edges))]
	}
	return int(r.Uint64()) >> r.Intn(64)
}

func anyBank(r *rand.Rand) impl.Bank {
	var b impl.Bank
	for range r.Intn(impl.MaxVars + 1) {
		kind := 1 + r.Intn(7)
		b.Kinds = append(b.Kinds, kind)
		b.Vals = append(b.Vals, wantConv(anyNumber(r), kind))
	}
	return b
}

// anyCode gives a right expression of at most size items, and what it comes to with these values.
func anyCode(r *rand.Rand, size int, vals []int, arg int) ([]impl.Item, int) {
	if size >= 3 && r.Intn(8) > 0 {
		below := 1 + r.Intn(size-2)
		left, l := anyCode(r, below, vals, arg)
		right, x := anyCode(r, size-1-below, vals, arg)
		number := binaryOps()[r.Intn(14)]
		return append(append(left, right...), op(number)), wantBinary(number, l, x)
	}
	if size >= 2 && r.Intn(3) > 0 {
		list, n := anyCode(r, size-1, vals, arg)
		if r.Intn(2) == 0 {
			return append(list, op(impl.OpNot)), one(n == 0)
		}
		kind := 1 + r.Intn(7)
		return append(list, conv(kind)), wantConv(n, kind)
	}
	switch pick := r.Intn(3); {
	case pick == 0:
		return code(op(impl.OpArg)), arg
	case pick == 1 && len(vals) > 0:
		i := r.Intn(len(vals))
		return code(variable(i)), vals[i]
	}
	n := r.Intn(2*impl.MaxNumber+1) - impl.MaxNumber
	return code(num(n)), n
}
