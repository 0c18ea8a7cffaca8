package tests

import (
	"slices"
	"testing"

	"loop.example/s0063/impl"
)

// tellers are objects of these Prios that emit the argument of every event on signal 0; signal 1 none of them handles.
func tellers(prios ...int) impl.System {
	s := impl.System{Sigs: 2}
	for _, prio := range prios {
		s.Objects = append(s.Objects, plain(prio, 1000, 1000, on(0, emit(arg()))))
	}
	return s
}

// emits are the arguments that were emitted, in order.
func emits(recs []impl.Rec) []int {
	list := []int{}
	for _, r := range recs {
		if r.Kind == impl.RecEmit {
			list = append(list, r.A)
		}
	}
	return list
}

func TestPromise11GreatestPrioFirst(t *testing.T) {
	s := tellers(20, 1000, 1, 300)
	k := standing(s)
	for i := range k.Queues {
		k.Queues[i] = []impl.Event{event(0, 10*i), event(0, 10*i+1)}
	}
	order := []int{10, 11, 30, 31, 0, 1, 20, 21}
	for fuel := range 12 {
		got := afterRun(s, k, fuel)
		taken := min(fuel, 8)
		same(t, "emitted", emits(got.recs), order[:taken])
		if got.taken != taken {
			t.Errorf("fuel %d: %d taken", fuel, got.taken)
		}
		usedUp := slices.Contains(got.recs, rec(7, -1, fuel))
		if usedUp != (fuel < 8) || len(got.recs) != taken+one(usedUp) {
			t.Errorf("fuel %d: %v", fuel, got.recs)
		}
		left := 0
		for _, queue := range got.kernel.Queues {
			left += len(queue)
		}
		if left != 8-taken {
			t.Errorf("fuel %d: %d are left", fuel, left)
		}
	}
}

// After each event the choice is made anew: what a step posts to a greater Prio comes next, what it posts to a smaller one comes later.
func TestPromise11ChosenAnewAfterEachEvent(t *testing.T) {
	s := tellers(5, 9, 2)
	s.Objects[0].Chart.Trans = []impl.Trans{on(0, emit(arg()), postStm(1, 0, num(100)), postStm(2, 0, num(200)))}
	s.Objects[1].Chart.Trans = []impl.Trans{on(0, emit(arg()), postStm(2, 0, num(300)))}
	k := standing(s)
	k.Queues[0] = []impl.Event{event(0, 1), event(0, 2)}
	got := afterRun(s, k, 100)
	same(t, "emitted", emits(got.recs), []int{1, 100, 2, 100, 200, 300, 200, 300})
	if got.taken != 8 || !sameKernel(got.kernel, standing(s)) {
		t.Error(got)
	}
}

func TestPromise11FrontComesNext(t *testing.T) {
	s := tellers(5)
	s.Objects[0].Chart.Trans = []impl.Trans{on(0, emit(arg())), on(1, emit(num(-1)), frontStm(0, 0, num(7)), frontStm(0, 0, num(8)), postStm(0, 0, num(9)))}
	k := standing(s)
	k.Queues[0] = []impl.Event{event(1, 0), event(0, 1)}
	got := afterRun(s, k, 5)
	same(t, "emitted", emits(got.recs), []int{-1, 8, 7, 1, 9})
	if got.taken != 5 || slices.Contains(got.recs, rec(7, -1, 5)) {
		t.Error(got)
	}
}

// Every step sees the leaf and the bank that the one before it left.
func TestPromise11StepsFollowOneAnother(t *testing.T) {
	c := told(treeChart(-1, 0, 0))
	c.Trans = []impl.Trans{
		{From: 1, Sig: 0, Target: 2, Action: []impl.Stm{set(0, variable(0), arg(), op(impl.OpAdd)), emit(variable(0))}},
		{From: 2, Sig: 0, Target: 1, Guard: code(variable(0), num(250), op(impl.OpLt)), Action: []impl.Stm{set(0, variable(0), num(2), op(impl.OpMul)), emit(variable(0))}},
		{From: 0, Sig: 0, Target: -1, Action: []impl.Stm{emit(num(-1))}},
	}
	s := impl.System{Sigs: 1, Objects: []impl.Object{{Prio: 1, QueueCap: 9, Bank: smallBank(), Chart: c}}}
	k := emptyKernel(s, 1)
	k.Queues[0] = []impl.Event{event(0, 50), event(0, 1), event(0, 60), event(0, 30), event(0, 5)}
	got := afterRun(s, k, 9)
	same(t, "emitted", emits(got.recs), []int{201, 250, 102, -1, -1, -1, -1})
	k.Vals[0][0] = 60
	k.Queues[0] = []impl.Event{event(0, 50), event(0, 1), event(0, 60)}
	got = afterRun(s, k, 9)
	same(t, "emitted", emits(got.recs), []int{201, 110, 102, 202, 220, 101, 201, 24, 102})
	if got.kernel.Leaf[0] != 2 || got.kernel.Vals[0][0] != 24 {
		t.Error(got.kernel)
	}
}

func TestPromise11NothingToTake(t *testing.T) {
	s := tellers(20, 1000)
	k := standing(s)
	k.Defers[0] = []impl.Event{event(0, 4)}
	for _, fuel := range []int{0, 1, 2, 10000} {
		sameAfter(t, "deferred events don't count", afterRun(s, k, fuel), after{kernel: k})
	}
	k.Queues[1] = []impl.Event{event(0, 1)}
	sameAfter(t, "no fuel", afterRun(s, k, 0), after{k, []impl.Rec{rec(7, -1, 0)}, 0})
}

func TestPromise11UnhandledEventsAreTaken(t *testing.T) {
	s := tellers(20, 1000)
	k := standing(s)
	want := copyKernel(k)
	k.Queues = [][]impl.Event{{event(1, 1), event(1, 2)}, {event(1, 3), event(0, 4)}}
	sameAfter(t, "all", afterRun(s, k, 4), after{want, []impl.Rec{rec(1, 1, 4)}, 4})
	want.Queues = [][]impl.Event{{event(1, 2)}, {}}
	sameAfter(t, "three", afterRun(s, k, 3), after{want, []impl.Rec{rec(1, 1, 4), rec(7, -1, 3)}, 3})
}

// The last event has room where it was taken from: the queue is full again without a record.
func TestPromise11FullQueueGivesRoomForOne(t *testing.T) {
	s := tellers(20)
	s.Objects[0].QueueCap = 1
	s.Objects[0].Chart.Trans = []impl.Trans{on(0, postStm(0, 0, arg(), num(1), op(impl.OpAdd)))}
	k := standing(s)
	k.Queues[0] = []impl.Event{event(0, 0)}
	for _, fuel := range []int{1, 2, 9999, 10000} {
		want := standing(s)
		want.Queues[0] = []impl.Event{event(0, fuel)}
		sameAfter(t, fuel, afterRun(s, k, fuel), after{want, []impl.Rec{rec(7, -1, fuel)}, fuel})
	}
}

func TestPromise11GreatestQueues(t *testing.T) {
	s := tellers(2, 1)
	k := standing(s)
	for i := range 1000 {
		k.Queues[0] = append(k.Queues[0], event(0, i))
		k.Queues[1] = append(k.Queues[1], event(0, 1000+i))
	}
	for _, fuel := range []int{1999, 2000, 2001} {
		got := afterRun(s, k, fuel)
		list := emits(got.recs)
		if !slices.IsSorted(list) || len(list) != min(fuel, 2000) || got.taken != len(list) || slices.Contains(got.recs, rec(7, -1, fuel)) != (fuel < 2000) {
			t.Errorf("fuel %d: %d taken", fuel, got.taken)
		}
	}
}

// All 64 objects hand one event round; each emits which one it is.
func TestPromise11ManyObjects(t *testing.T) {
	s := manySystem(1, 64, 0)
	for i := range s.Objects {
		s.Objects[i].Prio = 1 + (i*37)%64
		s.Objects[i].Chart.Trans = []impl.Trans{on(0, emit(num(i)), postStm((i+1)%64, 0, arg()))}
	}
	k := standing(s)
	k.Queues[0] = []impl.Event{event(0, 5)}
	got := afterRun(s, k, 1000)
	for n, i := range emits(got.recs) {
		if i != n%64 {
			t.Fatalf("event %d was taken by %d", n, i)
		}
	}
	want := standing(s)
	want.Queues[1000%64] = []impl.Event{event(0, 5)}
	if got.taken != 1000 || !sameKernel(got.kernel, want) {
		t.Error(got.taken, got.kernel)
	}
}

func TestPromise11AnySystem(t *testing.T) {
	r := fixedRandom()
	for range 800 {
		s := anySystem(r)
		k := anyKernel(r, s)
		fuel := r.Intn(60)
		got := afterRun(s, k, fuel)
		sameAfter(t, fuel, got, wantRun(s, k, fuel))
		waiting := slices.ContainsFunc(got.kernel.Queues, func(queue []impl.Event) bool { return len(queue) > 0 })
		if got.taken > fuel || got.taken < fuel && waiting || slices.Contains(got.recs, rec(7, -1, fuel)) != waiting {
			t.Errorf("fuel %d, %d taken, waiting: %v, %v", fuel, got.taken, waiting, got.recs)
		}
	}
}
