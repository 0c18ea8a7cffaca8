package tests

import (
	"slices"
	"testing"

	"loop.example/s0063/impl"
)

func withoutFuel(recs []impl.Rec) []impl.Rec {
	return slices.DeleteFunc(slices.Clone(recs), func(r impl.Rec) bool { return r.Kind == impl.RecFuel })
}

// inPieces runs with each fuel after the other.
func inPieces(s impl.System, k impl.Kernel, fuels ...int) after {
	whole := after{kernel: k}
	for _, fuel := range fuels {
		piece := afterRun(s, whole.kernel, fuel)
		whole = after{piece.kernel, append(whole.recs, withoutFuel(piece.recs)...), whole.taken + piece.taken}
	}
	return whole
}

// wantAsOne wants pieces to come to the same as one run.
func wantAsOne(t *testing.T, s impl.System, k impl.Kernel, fuels ...int) {
	t.Helper()
	sum := 0
	for _, fuel := range fuels {
		sum += fuel
	}
	one := afterRun(s, k, sum)
	one.recs = withoutFuel(one.recs)
	sameAfter(t, fuels, inPieces(s, k, fuels...), one)
}

// restless never comes to an end: two objects post to themselves and to each other, with drops, deferral and emits on the way.
func restless() impl.System {
	count := set(0, variable(0), num(1), op(impl.OpAdd))
	bank := impl.Bank{Kinds: []int{impl.KindU16}, Vals: []int{0}}
	s := impl.System{Sigs: 3, Timers: make([]impl.Timer, 1), Objects: []impl.Object{
		subscribing(plain(1, 3, 2, on(0, count, postStm(0, 0, arg(), num(1), op(impl.OpAdd)), postStm(1, 1, arg())), on(1, count, deferStm(), armStm(0, 3, variable(0))), on(2, recallStm(), emit(variable(0)))), 2),
		subscribing(plain(2, 2, 1, on(1, count, emit(arg()), publishStm(2, variable(0))), on(2, frontStm(0, 1, arg()), recallStm())), 2)}}
	s.Objects[0].Bank, s.Objects[1].Bank = bank, bank
	return s
}

func TestPromise12EverySplitOfAShortRun(t *testing.T) {
	s := restless()
	k := standing(s)
	k.Queues[0] = []impl.Event{event(0, 1)}
	for a := range 20 {
		for b := range 20 {
			wantAsOne(t, s, k, a, b)
		}
	}
	if got := afterRun(s, k, 40); got.taken != 40 || len(got.recs) < 20 {
		t.Error("the system came to rest", got)
	}
}

func TestPromise12MoreFuelThanEvents(t *testing.T) {
	s := tellers(3, 8)
	k := standing(s)
	k.Queues = [][]impl.Event{{event(0, 1), event(1, 2), event(0, 3)}, {event(0, 4)}}
	for a := range 7 {
		for b := range 7 {
			wantAsOne(t, s, k, a, b)
		}
	}
	wantAsOne(t, s, standing(s), 0, 0)
	wantAsOne(t, s, standing(s), 5, 5)
}

func TestPromise12UpToMaxFuel(t *testing.T) {
	s := restless()
	k := standing(s)
	k.Queues[0] = []impl.Event{event(0, 1)}
	wantAsOne(t, s, k, 0, 10000)
	wantAsOne(t, s, k, 10000, 0)
	wantAsOne(t, s, k, 1, 9999)
	wantAsOne(t, s, k, 5000, 5000)
	wantAsOne(t, s, k, 3333, 3333, 3334)
	if got := afterRun(s, k, 10000); got.taken != 10000 {
		t.Error("the system came to rest", got.taken)
	}
}

func TestPromise12AnySystem(t *testing.T) {
	r := fixedRandom()
	for range 500 {
		s := anySystem(r)
		k := anyKernel(r, s)
		wantAsOne(t, s, k, r.Intn(6), r.Intn(30))
		wantAsOne(t, s, k, r.Intn(30), r.Intn(6))
		wantAsOne(t, s, k, 1, 1, 1, 1, 1, r.Intn(9))
	}
}
