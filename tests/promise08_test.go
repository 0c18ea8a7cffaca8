package tests

import (
	"math"
	"slices"
	"testing"

	"loop.example/s0063/impl"
)

func wantSystemFault(t *testing.T, what any, s impl.System, code, obj, place int) {
	t.Helper()
	if a, b, c := impl.CheckSystem(s); a != code || b != obj || c != place {
		t.Errorf("%v: got (%d, %d, %d), want (%d, %d, %d)", what, a, b, c, code, obj, place)
	}
}

// wantSystem says 4.1 line by line.
func wantSystem(s impl.System) (int, int, int) {
	if s.Sigs < 1 || s.Sigs > 64 || len(s.Objects) < 1 || len(s.Objects) > 64 || len(s.Timers) > 200 {
		return 1, 0, 0
	}
	for i, o := range s.Objects {
		if o.Prio < 1 || o.Prio > 1000 || o.QueueCap < 1 || o.QueueCap > 1000 || o.DeferCap < 0 || o.DeferCap > 1000 || !impl.BankOK(o.Bank) {
			return 2, i, 0
		}
		if firstPlace(i, func(j int) bool { return s.Objects[j].Prio == o.Prio }) >= 0 {
			return 2, i, 0
		}
		if k := firstPlace(len(o.Subs), func(k int) bool {
			return !isOne(o.Subs[k], s.Sigs) || slices.Index(o.Subs, o.Subs[k]) < k
		}); k >= 0 {
			return 3, i, k
		}
		lim := impl.Limits{Objs: len(s.Objects), Sigs: s.Sigs, Timers: len(s.Timers), Vars: len(o.Bank.Vals)}
		if code, place := wantCheck(o.Chart, lim); code != 0 {
			return 10 + code, i, place
		}
	}
	if k := firstPlace(len(s.Timers), func(k int) bool {
		return !isOne(s.Timers[k].Obj, len(s.Objects)) || !isOne(s.Timers[k].Sig, s.Sigs)
	}); k >= 0 {
		return 4, 0, k
	}
	return 0, 0, 0
}

// manySystem has so many objects, signals and timers, and nothing that could be wrong but their numbers.
func manySystem(sigs, objects, timers int) impl.System {
	s := impl.System{Sigs: sigs, Timers: make([]impl.Timer, timers)}
	for i := range objects {
		s.Objects = append(s.Objects, plain(1+i, 1, 0))
	}
	return s
}

func TestPromise8Constants(t *testing.T) {
	same(t, "bounds", []int{impl.MaxPrio, impl.MaxCap, impl.MaxFuel, impl.MaxObjs, impl.MaxSigs, impl.MaxTimers}, []int{1000, 1000, 10000, 64, 64, 200})
	same(t, "codes", []int{impl.SystemOK, impl.SystemCount, impl.SystemObject, impl.SystemSub, impl.SystemTimer, impl.SystemChart}, []int{0, 1, 2, 3, 4, 10})
	same(t, "records", []int{impl.RecEmit, impl.RecFull, impl.RecDefer, impl.RecRange, impl.RecCount, impl.RecArmed, impl.RecFuel, impl.RecNone}, []int{1, 2, 3, 4, 5, 6, 7, 8})
}

func TestPromise8OrdinarySystems(t *testing.T) {
	wantSystemFault(t, "a small system", smallSystem(), 0, 0, 0)
	wantSystemFault(t, "one object, no timer, no variable", manySystem(1, 1, 0), 0, 0, 0)
	wantSystemFault(t, "the greatest counts", manySystem(64, 64, 200), 0, 0, 0)
	wantSystemFault(t, "nothing", impl.System{}, 1, 0, 0)
}

func TestPromise8Counts(t *testing.T) {
	for _, sigs := range []int{math.MinInt64, -1, 0, 1, 2, 63, 64, 65, 66, math.MaxInt64} {
		wantSystemFault(t, sigs, manySystem(sigs, 1, 1), one(!isOne(sigs-1, 64)), 0, 0)
	}
	for _, objects := range []int{0, 1, 2, 63, 64, 65, 66, 200} {
		wantSystemFault(t, objects, manySystem(1, objects, 0), one(!isOne(objects-1, 64)), 0, 0)
	}
	for _, timers := range []int{0, 1, 199, 200, 201, 202, 1000} {
		wantSystemFault(t, timers, manySystem(1, 1, timers), one(timers > 200), 0, 0)
	}
}

func TestPromise8NumbersOfAnObject(t *testing.T) {
	for i := range 2 {
		for _, n := range []int{math.MinInt64, -1, 0, 1, 2, 999, 1000, 1001, 1002, math.MaxInt64} {
			s := smallSystem()
			s.Objects[i].Prio = n
			wantSystemFault(t, "a Prio", s, 2*one(!isOne(n-1, 1000)), i*one(!isOne(n-1, 1000)), 0)
			s = smallSystem()
			s.Objects[i].QueueCap = n
			wantSystemFault(t, "a QueueCap", s, 2*one(!isOne(n-1, 1000)), i*one(!isOne(n-1, 1000)), 0)
			s = smallSystem()
			s.Objects[i].DeferCap = n
			wantSystemFault(t, "a DeferCap", s, 2*one(!isOne(n, 1001)), i*one(!isOne(n, 1001)), 0)
		}
	}
}

func TestPromise8EveryPrioOnce(t *testing.T) {
	for i := range 5 {
		for j := range i {
			s := manySystem(1, 5, 0)
			s.Objects[i].Prio = s.Objects[j].Prio
			wantSystemFault(t, "the Prio of an earlier object", s, 2, i, 0)
		}
	}
	s := manySystem(1, 64, 0)
	s.Objects[0].Prio = 64
	wantSystemFault(t, "the first and the last", s, 2, 63, 0)
	s = manySystem(1, 3, 0)
	s.Objects[0].Prio, s.Objects[1].Prio, s.Objects[2].Prio = 1000, 1, 500
	wantSystemFault(t, "in no order", s, 0, 0, 0)
	s.Objects[1].Prio, s.Objects[1].QueueCap, s.Objects[1].DeferCap = 1, 500, 1000
	wantSystemFault(t, "caps may be like another's Prio", s, 0, 0, 0)
}

func TestPromise8Banks(t *testing.T) {
	for what, b := range wrongBanks() {
		if impl.BankOK(b) {
			continue
		}
		for i := range 2 {
			s := smallSystem()
			s.Objects[i].Bank = b
			wantSystemFault(t, what, s, 2, i, 0)
		}
	}
	s := smallSystem()
	s.Objects[0].Bank = impl.Bank{Kinds: slices.Repeat([]int{impl.KindI8}, 32), Vals: make([]int, 32)}
	wantSystemFault(t, "MaxVars variables", s, 0, 0, 0)
}

func TestPromise8Subscriptions(t *testing.T) {
	for _, wrong := range []int{math.MinInt64, -1, 5, 6, math.MaxInt64} {
		for k := range 3 {
			s := manySystem(5, 2, 0)
			s.Objects[1].Subs = []int{4, 0, 2}
			wantSystemFault(t, "three", s, 0, 0, 0)
			s.Objects[1].Subs[k] = wrong
			wantSystemFault(t, wrong, s, 3, 1, k)
		}
	}
	for k := range 4 {
		for j := range k {
			s := manySystem(5, 1, 0)
			subs := []int{3, 1, 4, 0}
			subs[k] = subs[j]
			s.Objects[0].Subs = subs
			wantSystemFault(t, "twice", s, 3, 0, k)
		}
	}
	s := manySystem(64, 1, 0)
	for sig := range 64 {
		s.Objects[0].Subs = append(s.Objects[0].Subs, 63-sig)
	}
	wantSystemFault(t, "all signals", s, 0, 0, 0)
	s.Objects[0].Subs = append(s.Objects[0].Subs, make([]int, 100000)...)
	wantSystemFault(t, "one more", s, 3, 0, 64)
	s = manySystem(3, 2, 0)
	s.Objects[0].Subs, s.Objects[1].Subs = []int{2, 0}, []int{0, 2}
	wantSystemFault(t, "two that subscribe to the same", s, 0, 0, 0)
	s.Sigs = 2
	wantSystemFault(t, "a signal fewer", s, 3, 0, 0)
}

func TestPromise8EachFaultOfAChart(t *testing.T) {
	places := map[string][2]int{"no state": {1, 0}, "MaxStates + 1 states": {1, 0}, "a wrong parent": {2, 3}, "too deep": {3, 16},
		"a wrong initial": {4, 1}, "a wrong list": {5, 6}, "a wrong signal": {6, 6}, "a wrong guard": {6, 6}}
	for what, c := range wrongCharts() {
		for i := range 2 {
			s := smallSystem()
			s.Objects[i].Chart = c
			wantSystemFault(t, what, s, 10+places[what][0], i, places[what][1])
		}
	}
	s := smallSystem()
	s.Objects[1].Chart.Trans = make([]impl.Trans, 501)
	wantSystemFault(t, "MaxTrans + 1 transitions", s, 11, 1, 0)
}

// The limits of an object are the numbers of the system, and of its own variables.
func TestPromise8ChartsAreSeenWithTheLimits(t *testing.T) {
	s := manySystem(3, 2, 4)
	s.Objects[0].Bank = impl.Bank{Kinds: []int{1, 2, 3, 4, 5}, Vals: make([]int, 5)}
	s.Objects[1].Bank = impl.Bank{Kinds: []int{1}, Vals: []int{0}}
	vars := []int{5, 1}
	for i := range 2 {
		for n := range 8 {
			for _, row := range []struct {
				stm   impl.Stm
				count int
			}{{set(n, num(1)), vars[i]}, {postStm(n, 0, num(1)), 2}, {frontStm(0, n, num(1)), 3}, {publishStm(n, num(1)), 3},
				{armStm(n, 1, num(1)), 4}, {disarmStm(n), 4}, {emit(variable(n)), vars[i]}} {
				x := copySystem(s)
				x.Objects[i] = entering(x.Objects[i], row.stm)
				wantSystemFault(t, row.stm, x, 15*one(n >= row.count), i*one(n >= row.count), 0)
			}
			x := copySystem(s)
			x.Objects[i].Chart.Trans = []impl.Trans{on(0), on(n)}
			wantSystemFault(t, "a transition's signal", x, 16*one(n >= 3), i*one(n >= 3), one(n >= 3))
		}
	}
}

func TestPromise8Timers(t *testing.T) {
	for k := range 3 {
		for _, n := range []int{math.MinInt64, -1, 0, 1, 2, 3, 4, math.MaxInt64} {
			s := manySystem(3, 2, 3)
			s.Timers[k].Obj = n
			wantSystemFault(t, "an object", s, 4*one(!isOne(n, 2)), 0, k*one(!isOne(n, 2)))
			s = manySystem(3, 2, 3)
			s.Timers[k].Sig = n
			wantSystemFault(t, "a signal", s, 4*one(!isOne(n, 3)), 0, k*one(!isOne(n, 3)))
		}
	}
	s := manySystem(3, 2, 200)
	s.Timers[199] = impl.Timer{Obj: 2, Sig: 3}
	wantSystemFault(t, "the last timer", s, 4, 0, 199)
}

// Every set of faults, each ahead of those that come later in 4.1; all of an object come ahead of those of the next one, and timers last.
func TestPromise8FirstOfSeveral(t *testing.T) {
	faults := []struct {
		spoil func(s *impl.System)
		want  [3]int
	}{
		{func(s *impl.System) { s.Sigs = 65 }, [3]int{1, 0, 0}},
		{func(s *impl.System) { s.Objects[0].QueueCap = 0 }, [3]int{2, 0, 0}},
		{func(s *impl.System) { s.Objects[0].Subs = []int{1, 0, 0, 0, 7} }, [3]int{3, 0, 2}},
		{func(s *impl.System) { s.Objects[0].Chart.States[5].Entry = make([]impl.Stm, 1) }, [3]int{15, 0, 5}},
		{func(s *impl.System) { s.Objects[0].Chart.Trans[2].From = -1 }, [3]int{16, 0, 2}},
		{func(s *impl.System) { s.Objects[1].Prio = 3 }, [3]int{2, 1, 0}},
		{func(s *impl.System) { s.Objects[1].Subs = []int{-1} }, [3]int{3, 1, 0}},
		{func(s *impl.System) { s.Objects[1].Chart.States = nil }, [3]int{11, 1, 0}},
		{func(s *impl.System) { s.Timers[1].Obj = -1 }, [3]int{4, 0, 1}},
	}
	for set := range 1 << len(faults) {
		s := smallSystem()
		want := [3]int{}
		for k := len(faults) - 1; k >= 0; k-- {
			if set>>k&1 != 0 {
				faults[k].spoil(&s)
				want = faults[k].want
			}
		}
		wantSystemFault(t, set, s, want[0], want[1], want[2])
	}
}

// spoilSystem brings in one fault of any kind, or something that may be right.
func spoilSystem(pick func(n int) int, s *impl.System) {
	o := &s.Objects[pick(len(s.Objects))]
	n := pick(8) - 2
	switch pick(12) {
	case 0:
		s.Sigs = n
	case 1:
		s.Timers = append(s.Timers, impl.Timer{Obj: n, Sig: pick(4)})
	case 2:
		s.Timers = s.Timers[:pick(len(s.Timers)+1)]
	case 3:
		o.Prio = s.Objects[pick(len(s.Objects))].Prio
	case 4:
		o.QueueCap, o.DeferCap = n, pick(4)-1
	case 5:
		o.Bank.Kinds = slices.Insert(slices.Clone(o.Bank.Kinds), 0, n)
	case 6, 7:
		o.Subs = append(o.Subs, n)
	case 8:
		s.Timers = append(s.Timers, impl.Timer{Obj: pick(2), Sig: n})
	case 9:
		s.Objects = append(s.Objects, *o)
	default:
		lim := impl.Limits{}
		spoil(pick, &o.Chart, &lim)
	}
}

func TestPromise8AnySystem(t *testing.T) {
	r := fixedRandom()
	seen := map[int]int{}
	for range 6000 {
		s := anySystem(r)
		for range r.Intn(4) {
			spoilSystem(r.Intn, &s)
		}
		code, obj, place := wantSystem(s)
		wantSystemFault(t, "any system", s, code, obj, place)
		if t.Failed() {
			t.Fatalf("%v", s)
		}
		seen[code]++
	}
	for _, code := range []int{0, 1, 2, 3, 4, 12, 13, 14, 15, 16} {
		if seen[code] < 20 {
			t.Errorf("code %d came up %d times only", code, seen[code])
		}
	}
}

func TestPromise8NothingWritten(t *testing.T) {
	r := fixedRandom()
	for range 300 {
		s := anySystem(r)
		if r.Intn(2) == 0 {
			spoilSystem(r.Intn, &s)
		}
		before := copySystem(s)
		code, obj, place := impl.CheckSystem(s)
		unchanged(t, "the system", s, before)
		wantSystemFault(t, "asked again", s, code, obj, place)
	}
}
