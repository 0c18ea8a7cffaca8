package tests

import (
	"math"
	"runtime"
	"slices"
	"sync"
	"testing"
	"time"

	"loop.example/s0063/impl"
)

// wantKernelOK says 4.2 clause by clause, for a system that passes its check.
func wantKernelOK(s impl.System, k impl.Kernel) bool {
	objects, timers := len(s.Objects), len(s.Timers)
	lengths := []int{len(k.Leaf), len(k.Vals), len(k.Queues), len(k.Defers)}
	if slices.ContainsFunc(lengths, func(n int) bool { return n != objects }) || len(k.Left) != timers || len(k.Every) != timers {
		return false
	}
	wrongSig := func(e impl.Event) bool { return !isOne(e.Sig, s.Sigs) }
	for i, o := range s.Objects {
		if !slices.Contains(leavesOf(o.Chart), k.Leaf[i]) || len(k.Vals[i]) != len(o.Bank.Vals) {
			return false
		}
		if !impl.BankOK(impl.Bank{Kinds: o.Bank.Kinds, Vals: k.Vals[i]}) {
			return false
		}
		if len(k.Queues[i]) > o.QueueCap || len(k.Defers[i]) > o.DeferCap || slices.ContainsFunc(slices.Concat(k.Queues[i], k.Defers[i]), wrongSig) {
			return false
		}
	}
	return firstPlace(timers, func(i int) bool {
		return k.Left[i] < 0 || !isOne(k.Every[i], 1000000000) || k.Left[i] == 0 && k.Every[i] != 0
	}) < 0
}

// refusedKernel wants KernelOK to be false and every operation to give its fixed answer.
func refusedKernel(t *testing.T, what any, s impl.System, k impl.Kernel) {
	t.Helper()
	if impl.KernelOK(s, k) {
		t.Errorf("%v: the kernel is OK", what)
	}
	for name, operation := range operations() {
		sameAfter(t, []any{what, name}, operation(s, k), after{})
	}
	sameAfter(t, []any{what, "post out of range"}, afterPost(s, k, -1, -1, 0), after{})
	sameAfter(t, []any{what, "publish out of range"}, afterPublish(s, k, -1, 0), after{})
	sameAfter(t, []any{what, "run with no fuel"}, afterRun(s, k, 0), after{})
}

func acceptedKernel(t *testing.T, what any, s impl.System, k impl.Kernel) {
	t.Helper()
	if !impl.KernelOK(s, k) {
		t.Errorf("%v: the kernel isn't OK", what)
	}
	for name, operation := range operations() {
		if got := operation(s, k); len(got.kernel.Leaf) != len(s.Objects) {
			t.Errorf("%v: %s gave its fixed answer", what, name)
		}
	}
}

func TestPromise9OrdinaryKernels(t *testing.T) {
	acceptedKernel(t, "something in every list", smallSystem(), smallKernel())
	acceptedKernel(t, "nothing in any list", smallSystem(), emptyKernel(smallSystem(), 2, 6))
	s := manySystem(64, 64, 200)
	acceptedKernel(t, "the greatest counts", s, standing(s))
}

func TestPromise9LengthsOfLists(t *testing.T) {
	s := smallSystem()
	for what, spoil := range map[string]func(k *impl.Kernel){
		"a leaf fewer":          func(k *impl.Kernel) { k.Leaf = k.Leaf[:1] },
		"a leaf more":           func(k *impl.Kernel) { k.Leaf = append(k.Leaf, 2) },
		"values fewer":          func(k *impl.Kernel) { k.Vals = k.Vals[:1] },
		"values more":           func(k *impl.Kernel) { k.Vals = append(k.Vals, []int{0}) },
		"a queue fewer":         func(k *impl.Kernel) { k.Queues = k.Queues[:1] },
		"a queue more":          func(k *impl.Kernel) { k.Queues = append(k.Queues, nil) },
		"a deferred list fewer": func(k *impl.Kernel) { k.Defers = k.Defers[:1] },
		"a deferred list more":  func(k *impl.Kernel) { k.Defers = append(k.Defers, nil) },
		"a left fewer":          func(k *impl.Kernel) { k.Left = k.Left[:1] },
		"a left more":           func(k *impl.Kernel) { k.Left = append(k.Left, 0) },
		"an every fewer":        func(k *impl.Kernel) { k.Every = k.Every[:1] },
		"an every more":         func(k *impl.Kernel) { k.Every = append(k.Every, 0) },
		"no list":               func(k *impl.Kernel) { *k = impl.Kernel{} },
		"an object more":        func(k *impl.Kernel) { *k = standing(manySystem(2, 3, 2)) },
		"a timer fewer":         func(k *impl.Kernel) { k.Left, k.Every = k.Left[:1], k.Every[:1] },
	} {
		k := smallKernel()
		spoil(&k)
		refusedKernel(t, what, s, k)
	}
}

func TestPromise9Leaves(t *testing.T) {
	for i := range 2 {
		for _, state := range []int{math.MinInt64, -2, -1, 0, 1, 2, 3, 4, 5, 6, 7, 8, math.MaxInt64} {
			k := smallKernel()
			k.Leaf[i] = state
			if slices.Contains([]int{2, 3, 6}, state) {
				acceptedKernel(t, state, smallSystem(), k)
			} else {
				refusedKernel(t, state, smallSystem(), k)
			}
		}
	}
}

func TestPromise9Values(t *testing.T) {
	s := smallSystem()
	for i := range 2 {
		for _, row := range kindRows() {
			s.Objects[i].Bank.Kinds = []int{row.kind}
			s.Objects[i].Bank.Vals = []int{1}
			for _, n := range edgeNumbers() {
				k := smallKernel()
				k.Vals[i], k.Vals[1-i] = []int{n}, []int{s.Objects[1-i].Bank.Vals[0]}
				if got, want := impl.KernelOK(s, k), n >= row.least && n <= row.most; got != want {
					t.Errorf("kind %d, value %d: got %v, want %v", row.kind, n, got, want)
				}
			}
		}
		s = smallSystem()
		for _, vals := range [][]int{nil, {0, 0}, {256}, {-1}, make([]int, 33)} {
			k := smallKernel()
			k.Vals[i] = vals
			refusedKernel(t, vals, s, k)
		}
	}
	k := smallKernel()
	k.Vals[0] = []int{200}
	s.Objects[0].Bank.Kinds[0] = impl.KindI8
	s.Objects[0].Bank.Vals[0] = 100
	refusedKernel(t, "a value of another kind", s, k)
}

func TestPromise9Capacities(t *testing.T) {
	for most := 1; most <= 1000; most += 333 {
		for i := range 2 {
			s := smallSystem()
			s.Objects[i].QueueCap = most
			k := emptyKernel(s, 2, 6)
			for _, count := range []int{0, 1, most - 1, most, most + 1, most + 2} {
				k.Queues[i] = make([]impl.Event, count)
				if got := impl.KernelOK(s, k); got != (count <= most) {
					t.Errorf("a queue for %d holds %d: %v", most, count, got)
				}
			}
			refusedKernel(t, "too many in a queue", s, k)
			s.Objects[i].DeferCap = most - 1
			k = emptyKernel(s, 2, 6)
			for _, count := range []int{0, most - 1, most, most + 1} {
				k.Defers[i] = make([]impl.Event, count)
				if got := impl.KernelOK(s, k); got != (count <= most-1) {
					t.Errorf("a deferred list for %d holds %d: %v", most-1, count, got)
				}
			}
			refusedKernel(t, "too many deferred", s, k)
		}
	}
}

func TestPromise9Signals(t *testing.T) {
	for _, sig := range []int{math.MinInt64, -1, 0, 1, 2, 3, math.MaxInt64} {
		for i := range 2 {
			queue, deferred := smallKernel(), smallKernel()
			queue.Queues[i][len(queue.Queues[i])-1].Sig = sig
			deferred.Defers[i][len(deferred.Defers[i])-1].Sig = sig
			for _, k := range []impl.Kernel{queue, deferred} {
				if isOne(sig, 2) {
					acceptedKernel(t, sig, smallSystem(), k)
				} else {
					refusedKernel(t, sig, smallSystem(), k)
				}
			}
		}
	}
	k := smallKernel()
	k.Queues[0][0].Arg, k.Defers[0][0].Arg = math.MinInt64, math.MaxInt64
	acceptedKernel(t, "any argument", smallSystem(), k)
}

func TestPromise9Timers(t *testing.T) {
	lefts := []int{math.MinInt64, -1, 0, 1, 2, 999999999, 1000000000, math.MaxInt64}
	everies := []int{math.MinInt64, -1, 0, 1, 2, 999999998, 999999999, 1000000000, math.MaxInt64}
	for i := range 2 {
		for _, left := range lefts {
			for _, every := range everies {
				k := smallKernel()
				k.Left[i], k.Every[i] = left, every
				if left >= 0 && isOne(every, 1000000000) && (left > 0 || every == 0) {
					acceptedKernel(t, []int{left, every}, smallSystem(), k)
				} else {
					refusedKernel(t, []int{left, every}, smallSystem(), k)
				}
			}
		}
	}
}

func TestPromise9SystemsThatAreWrong(t *testing.T) {
	for what, spoil := range map[string]func(s *impl.System){
		"no signal":           func(s *impl.System) { s.Sigs = 0 },
		"MaxSigs + 1 signals": func(s *impl.System) { s.Sigs = 65 },
		"one Prio twice":      func(s *impl.System) { s.Objects[1].Prio = 3 },
		"Prio 0":              func(s *impl.System) { s.Objects[0].Prio = 0 },
		"a great QueueCap":    func(s *impl.System) { s.Objects[0].QueueCap = 1001 },
		"a wrong bank":        func(s *impl.System) { s.Objects[1].Bank.Vals[0] = 256 },
		"a subscription":      func(s *impl.System) { s.Objects[1].Subs[0] = 2 },
		"a chart":             func(s *impl.System) { s.Objects[1].Chart.Trans[0].Sig = 2 },
		"no state":            func(s *impl.System) { s.Objects[1].Chart.States = nil },
		"a timer":             func(s *impl.System) { s.Timers[1].Obj = 2 },
	} {
		s := smallSystem()
		spoil(&s)
		refusedKernel(t, what, s, smallKernel())
		sameAfter(t, what, afterStart(s), after{})
	}
	refusedKernel(t, "nothing at all", impl.System{}, impl.Kernel{})
	sameAfter(t, "nothing at all", afterStart(impl.System{}), after{})
	s := manySystem(1, 65, 0)
	refusedKernel(t, "MaxObjs + 1 objects", s, standing(s))
	sameAfter(t, "MaxObjs + 1 objects", afterStart(s), after{})
	s = manySystem(1, 1, 201)
	refusedKernel(t, "MaxTimers + 1 timers", s, standing(s))
	sameAfter(t, "MaxTimers + 1 timers", afterStart(s), after{})
}

// threeStarts has first steps that post to one another; by Prio the order is 1, 2, 0.
func threeStarts() impl.System {
	return impl.System{Sigs: 3, Timers: make([]impl.Timer, 1), Objects: []impl.Object{
		entering(plain(5, 3, 1), emit(num(10)), postStm(1, 2, num(11)), armStm(0, 0, num(7)), emit(num(12))),
		entering(subscribing(plain(900, 2, 1), 1), emit(num(20)), publishStm(1, num(21)), postStm(0, 0, num(22)), armStm(0, 4, num(6)), frontStm(2, 2, num(23)), recallStm(), emit(arg())),
		entering(subscribing(plain(70, 1, 1), 2, 1), emit(num(30)), frontStm(0, 2, num(31)), deferStm(), publishStm(1, num(32))),
	}}
}

func TestPromise9StartInDescendingPrio(t *testing.T) {
	s := threeStarts()
	k := standing(s)
	k.Queues = [][]impl.Event{{{Sig: 2, Arg: 31}, {Sig: 0, Arg: 22}}, {{Sig: 1, Arg: 21}, {Sig: 1, Arg: 32}}, {{Sig: 1, Arg: 21}}}
	k.Left, k.Every = []int{6}, []int{4}
	recs := []impl.Rec{{Kind: 1, Obj: 1, A: 20}, {Kind: 2, Obj: 2, A: 2}, {Kind: 1, Obj: 1, A: 0},
		{Kind: 1, Obj: 2, A: 30}, {Kind: 8, Obj: 2, A: 0}, {Kind: 2, Obj: 2, A: 1},
		{Kind: 1, Obj: 0, A: 10}, {Kind: 2, Obj: 1, A: 2}, {Kind: 6, Obj: 0, A: 0}, {Kind: 1, Obj: 0, A: 12}}
	sameAfter(t, "three objects", afterStart(s), after{k, recs, 0})
	if !impl.KernelOK(s, afterStart(s).kernel) {
		t.Error("the kernel isn't OK")
	}
}

// The first step drills, and its sets are kept; the bank of the system is what it begins with.
func TestPromise9StartKeepsLeafAndBank(t *testing.T) {
	s := smallSystem()
	for i := range s.Objects {
		c := &s.Objects[i].Chart
		for state := range c.States {
			c.States[state].Entry = []impl.Stm{set(0, variable(0), num(1), op(impl.OpAdd)), emit(variable(0))}
		}
	}
	s.Objects[1].Chart.States[0].Initial = 4
	s.Objects[1].Bank.Vals[0] = 254
	want := emptyKernel(s, 2, 6)
	want.Vals = [][]int{{203}, {2}}
	recs := []impl.Rec{{Kind: 1, Obj: 1, A: 255}, {Kind: 1, Obj: 1, A: 0}, {Kind: 1, Obj: 1, A: 1}, {Kind: 1, Obj: 1, A: 2},
		{Kind: 1, Obj: 0, A: 201}, {Kind: 1, Obj: 0, A: 202}, {Kind: 1, Obj: 0, A: 203}}
	sameAfter(t, "sets in first steps", afterStart(s), after{want, recs, 0})
	s = manySystem(1, 1, 0)
	sameAfter(t, "a system that does nothing", afterStart(s), after{kernel: standing(s)})
}

// checkedOp carries out one operation of any sort and holds it against the reference.
func checkedOp(t *testing.T, pick func(n int) int, s impl.System, k impl.Kernel) impl.Kernel {
	t.Helper()
	obj, sig, arg := pick(len(s.Objects)+2)-1, pick(s.Sigs+2)-1, pick(9)-4
	var got, want after
	switch pick(5) {
	case 0:
		got, want = afterPost(s, k, obj, sig, arg), wantPost(s, k, obj, sig, arg)
	case 1:
		got, want = afterPublish(s, k, sig, arg), wantPublish(s, k, sig, arg)
	case 2:
		got, want = afterTick(s, k), wantTick(s, k)
	default:
		fuel := pick(12)
		got, want = afterRun(s, k, fuel), wantRun(s, k, fuel)
	}
	sameAfter(t, "an operation", got, want)
	if !impl.KernelOK(s, got.kernel) || !wantKernelOK(s, got.kernel) {
		t.Errorf("the kernel isn't OK: %v", got.kernel)
	}
	return got.kernel
}

// Every kind of record has to come up, or the systems are too tame to tell anything.
func TestPromise9AnySystemStaysOK(t *testing.T) {
	r := fixedRandom()
	seen := map[int]int{}
	for range 1200 {
		s := anySystem(r)
		got, want := afterStart(s), wantStart(s)
		sameAfter(t, "start", got, want)
		k := got.kernel
		if !impl.KernelOK(s, k) || !wantKernelOK(s, k) {
			t.Errorf("the kernel isn't OK: %v", k)
		}
		if r.Intn(2) == 0 {
			k = anyKernel(r, s)
		}
		for range 12 {
			for _, rec := range append(want.recs, wantRun(s, k, 5).recs...) {
				seen[rec.Kind]++
			}
			k = checkedOp(t, r.Intn, s, k)
		}
		if t.Failed() {
			t.Fatalf("%v", s)
		}
	}
	for _, kind := range []int{1, 2, 3, 5, 6, 7, 8} {
		if seen[kind] < 20 {
			t.Errorf("record %d came up %d times only", kind, seen[kind])
		}
	}
}

func TestPromise9AnyKernelIsSeenThrough(t *testing.T) {
	r := fixedRandom()
	var seen [2]int
	for range 3000 {
		s := anySystem(r)
		k := anyKernel(r, s)
		i, timer := r.Intn(len(s.Objects)), r.Intn(len(s.Timers))
		switch r.Intn(8) {
		case 0:
			k.Leaf[i] = r.Intn(9) - 1
		case 1:
			k.Vals[i][0] = anyNumber(r)
		case 2:
			k.Queues[i] = anyEvents(r, 6, s.Sigs+1)
		case 3:
			k.Defers[i] = anyEvents(r, 4, s.Sigs+1)
		case 4:
			k.Left[timer] = r.Intn(4) - 1
		case 5:
			k.Every[timer] = r.Intn(4) - 1
		case 6:
			k.Left = append(k.Left, 0)
		}
		want := wantKernelOK(s, k)
		if got := impl.KernelOK(s, k); got != want {
			t.Fatalf("got %v, want %v: %v %v", got, want, s, k)
		}
		seen[one(want)]++
	}
	if seen[0] < 100 || seen[1] < 100 {
		t.Error("too few of a sort", seen)
	}
}

func TestPromise9FuelOutOfRange(t *testing.T) {
	s, k := smallSystem(), smallKernel()
	for _, fuel := range []int{math.MinInt64, -2, -1, 10001, 10002, math.MaxInt64} {
		sameAfter(t, fuel, afterRun(s, k, fuel), after{})
	}
	for _, fuel := range []int{0, 1, 9999, 10000} {
		sameAfter(t, fuel, afterRun(s, k, fuel), wantRun(s, k, fuel))
	}
}

func TestPromise9NewMemoryAndNothingWritten(t *testing.T) {
	r := fixedRandom()
	for range 300 {
		s := anySystem(r)
		k := anyKernel(r, s)
		systemBefore, kernelBefore := copySystem(s), copyKernel(k)
		newMemory(t, "start", afterStart(s), s)
		for name, operation := range operations() {
			newMemory(t, name, operation(s, k), s, k)
		}
		newMemory(t, "no fuel", afterRun(s, k, 0), s, k)
		newMemory(t, "out of range", afterPost(s, k, -1, 0, 0), s, k)
		impl.KernelOK(s, k)
		unchanged(t, "the system", s, systemBefore)
		unchanged(t, "the kernel", k, kernelBefore)
	}
}

// One list may stand at several places of an argument; nothing that is done to one of them shows at another.
func TestPromise9ListsThatShareMemory(t *testing.T) {
	s := manySystem(2, 2, 2)
	for i := range s.Objects {
		s.Objects[i] = plain(1+i, 4, 4, on(0, set(0, variable(0), num(1), op(impl.OpAdd)), deferStm()), on(1, recallStm()))
		s.Objects[i].Bank = impl.Bank{Kinds: []int{4}, Vals: []int{5}}
	}
	ints, vals, events := []int{0, 0}, []int{5}, make([]impl.Event, 2, 4)
	k := impl.Kernel{Leaf: ints, Left: ints, Every: ints, Vals: [][]int{vals, vals}, Queues: [][]impl.Event{events, events}, Defers: [][]impl.Event{events, events}}
	for name, operation := range operations() {
		got := operation(s, k)
		sameAfter(t, name, got, operation(s, copyKernel(k)))
		newMemory(t, name, got, k)
	}
	same(t, "the shared values", vals, []int{5})
	same(t, "the shared events and what follows them", events[:4], make([]impl.Event, 4))
}

// endedAgain gives goroutines that are just about to end the time to do so.
func endedAgain(before int) bool {
	for range 500 {
		if runtime.NumGoroutine() <= before {
			return true
		}
		time.Sleep(time.Millisecond)
	}
	return false
}

func TestPromise9GoroutinesHaveEnded(t *testing.T) {
	s := manySystem(1, 64, 1)
	for i := range s.Objects {
		s.Objects[i].Chart.Trans = []impl.Trans{on(0, postStm(63-i, 0, arg()), emit(arg()))}
	}
	k := standing(s)
	k.Queues[5] = []impl.Event{{Sig: 0, Arg: 1}}
	before := runtime.NumGoroutine()
	for range 20 {
		afterStart(s)
		for _, operation := range operations() {
			operation(s, k)
		}
		afterRun(s, k, 0)
		afterRun(s, k, -1)
		afterRun(s, k, 1000)
		afterRun(s, standing(s), 3)
		afterRun(s, impl.Kernel{}, 3)
		afterStart(impl.System{})
	}
	if !endedAgain(before) {
		t.Errorf("%d goroutines before, %d after", before, runtime.NumGoroutine())
	}
}

// An answer hangs on the arguments alone, also while others use the same ones.
func TestPromise9ManyCallsAtOnce(t *testing.T) {
	r := fixedRandom()
	for range 20 {
		s := anySystem(r)
		k := anyKernel(r, s)
		start, run := wantStart(s), wantRun(s, k, 200)
		var calls sync.WaitGroup
		for range 8 {
			calls.Go(func() {
				sameAfter(t, "start", afterStart(s), start)
				sameAfter(t, "run", afterRun(s, k, 200), run)
			})
		}
		calls.Wait()
	}
}
