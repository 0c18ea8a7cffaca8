package tests

import (
	"math"
	"slices"
	"testing"

	"loop.example/s0063/impl"
)

// clock has one object and so many timers, each with a signal of its own. The object emits the timer's index when the timer's event comes.
// The signals after those do what the lists say.
func clock(timers int, lists ...[]impl.Stm) impl.System {
	o := plain(1, 1000, 0)
	s := impl.System{Sigs: timers + len(lists)}
	for i := range timers {
		s.Timers = append(s.Timers, impl.Timer{Obj: 0, Sig: i})
		o.Chart.Trans = append(o.Chart.Trans, on(i, emit(arg())))
	}
	for i, list := range lists {
		o.Chart.Trans = append(o.Chart.Trans, on(timers+i, list...))
	}
	s.Objects = []impl.Object{o}
	return s
}

// toldSignal posts a signal and lets the object take it.
func toldSignal(t *testing.T, s impl.System, k impl.Kernel, sig, arg int) impl.Kernel {
	t.Helper()
	got := afterPost(s, k, 0, sig, arg)
	got = afterRun(s, got.kernel, 100)
	if got.taken != 1 || len(got.recs) != 0 {
		t.Errorf("signal %d: %v", sig, got)
	}
	return got.kernel
}

// firings ticks so many times and gives, for each tick by its number from 1, the events that it put.
func firings(t *testing.T, s impl.System, k impl.Kernel, ticks int) (map[int][]int, impl.Kernel) {
	t.Helper()
	fired := map[int][]int{}
	for n := 1; n <= ticks; n++ {
		tick := afterTick(s, k)
		run := afterRun(s, tick.kernel, 1000)
		if len(tick.recs) != 0 || run.taken != len(run.recs) {
			t.Errorf("tick %d: %v %v", n, tick.recs, run.recs)
		}
		if run.taken > 0 {
			fired[n] = emits(run.recs)
		}
		k = run.kernel
	}
	return fired, k
}

func ticksOf(fired map[int][]int) []int {
	list := []int{}
	for n := range fired {
		list = append(list, n)
	}
	slices.Sort(list)
	return list
}

func TestPromise13OnceAtTheCount(t *testing.T) {
	for count := 1; count <= 12; count++ {
		s := clock(1, []impl.Stm{armStm(0, 0, arg())})
		k := toldSignal(t, s, standing(s), 1, count)
		fired, k := firings(t, s, k, 40)
		same(t, "ticks", ticksOf(fired), []int{count})
		if !sameKernel(k, standing(s)) {
			t.Error("it is still armed", k)
		}
	}
}

func TestPromise13AgainAtTheInterval(t *testing.T) {
	for count := 1; count <= 6; count++ {
		for interval := 1; interval <= 6; interval++ {
			s := clock(1, []impl.Stm{armStm(0, interval, arg())})
			k := toldSignal(t, s, standing(s), 1, count)
			fired, _ := firings(t, s, k, 30)
			want := []int{}
			for n := count; n <= 30; n += interval {
				want = append(want, n)
			}
			same(t, "ticks", ticksOf(fired), want)
		}
	}
}

func TestPromise13DisarmedPutsNone(t *testing.T) {
	for interval := range 3 {
		for at := range 9 {
			s := clock(2, []impl.Stm{armStm(0, interval, num(4)), armStm(1, interval, num(6))}, []impl.Stm{disarmStm(0)})
			k := toldSignal(t, s, standing(s), 2, 0)
			before, k := firings(t, s, k, at)
			k = toldSignal(t, s, k, 3, 0)
			later, _ := firings(t, s, k, 30)
			for n, list := range later {
				if slices.Contains(list, 0) {
					t.Errorf("disarmed after %d ticks, it fires %d later", at, n)
				}
			}
			if at >= 4 && !slices.Equal(before[4], []int{0}) {
				t.Errorf("not fired before: %v", before)
			}
			if at < 6 && !slices.Contains(later[6-at], 1) {
				t.Errorf("the other timer is gone: %v", later)
			}
		}
	}
}

func TestPromise13DisarmedAndArmedAnew(t *testing.T) {
	s := clock(1, []impl.Stm{armStm(0, 2, num(5))}, []impl.Stm{disarmStm(0), armStm(0, 0, num(3))})
	k := toldSignal(t, s, standing(s), 1, 0)
	fired, k := firings(t, s, k, 4)
	same(t, "ticks", ticksOf(fired), []int{})
	k = toldSignal(t, s, k, 2, 0)
	fired, _ = firings(t, s, k, 20)
	same(t, "ticks", ticksOf(fired), []int{3})
}

// What finds the timer armed leaves its count and its interval alone.
func TestPromise13ArmingAnArmedTimer(t *testing.T) {
	s := clock(1, []impl.Stm{armStm(0, 3, num(5))}, []impl.Stm{armStm(0, 1, num(1))})
	k := toldSignal(t, s, standing(s), 1, 0)
	_, k = firings(t, s, k, 2)
	got := afterPost(s, k, 0, 2, 0)
	got = afterRun(s, got.kernel, 5)
	same(t, "records", got.recs, []impl.Rec{rec(6, 0, 0)})
	fired, _ := firings(t, s, got.kernel, 10)
	same(t, "ticks", ticksOf(fired), []int{3, 6, 9})
}

func TestPromise13FiredOnceIsNotArmed(t *testing.T) {
	s := clock(1, []impl.Stm{armStm(0, 0, num(2))})
	k := toldSignal(t, s, standing(s), 1, 0)
	_, k = firings(t, s, k, 2)
	k = toldSignal(t, s, k, 1, 0)
	fired, _ := firings(t, s, k, 9)
	same(t, "ticks", ticksOf(fired), []int{2})
}

func TestPromise13Ascending(t *testing.T) {
	s := clock(5, []impl.Stm{armStm(4, 2, num(2)), armStm(1, 3, num(6)), armStm(3, 0, num(4)), armStm(0, 1, num(6))})
	k := toldSignal(t, s, standing(s), 5, 0)
	fired, _ := firings(t, s, k, 9)
	for n, want := range map[int][]int{1: nil, 2: {4}, 3: nil, 4: {3, 4}, 5: nil, 6: {0, 1, 4}, 7: {0}, 8: {0, 4}, 9: {0, 1}} {
		same(t, "timers", fired[n], want)
	}
}

// The events of one Tick stand in the queues in the order of the timers, behind what is there.
func TestPromise13PutAtTheEnd(t *testing.T) {
	s := tellers(7, 3)
	s.Timers = []impl.Timer{{Obj: 1, Sig: 1}, {Obj: 0, Sig: 0}, {Obj: 1, Sig: 0}, {Obj: 0, Sig: 1}, {Obj: 1, Sig: 1}}
	k := standing(s)
	k.Queues[1] = []impl.Event{event(0, 77)}
	k.Left, k.Every = []int{1, 1, 2, 0, 1}, []int{3, 0, 1, 0, 0}
	want := copyKernel(k)
	want.Queues = [][]impl.Event{{event(0, 1)}, {event(0, 77), event(1, 0), event(1, 4)}}
	want.Left, want.Every = []int{3, 0, 1, 0, 0}, []int{3, 0, 1, 0, 0}
	sameAfter(t, "the first", afterTick(s, k), after{kernel: want})
	next := copyKernel(want)
	next.Queues[1] = append(next.Queues[1], event(0, 2))
	next.Left = []int{2, 0, 1, 0, 0}
	sameAfter(t, "the second", afterTick(s, want), after{kernel: next})
}

func TestPromise13NoneIsArmed(t *testing.T) {
	s := clock(3)
	sameAfter(t, "three timers", afterTick(s, standing(s)), after{kernel: standing(s)})
	s = tellers(1)
	k := standing(s)
	k.Queues[0] = []impl.Event{event(0, 1)}
	sameAfter(t, "no timer", afterTick(s, k), after{kernel: k})
}

func TestPromise13GreatCounts(t *testing.T) {
	s := clock(2)
	for _, left := range []int{2, 999999999, math.MaxInt64} {
		k := standing(s)
		k.Left, k.Every = []int{left, 0}, []int{999999999, 0}
		want := copyKernel(k)
		want.Left[0] = left - 1
		sameAfter(t, left, afterTick(s, k), after{kernel: want})
	}
	k := standing(s)
	k.Left, k.Every = []int{0, 1}, []int{0, 999999999}
	want := copyKernel(k)
	want.Left[1] = 999999999
	want.Queues[0] = []impl.Event{event(1, 1)}
	sameAfter(t, "the greatest interval", afterTick(s, k), after{kernel: want})
}

// A dropped event doesn't stop a timer: it goes on as if there had been room.
func TestPromise13FullQueueDoesntStopATimer(t *testing.T) {
	s := clock(2)
	s.Objects[0].QueueCap = 1
	k := standing(s)
	k.Queues[0] = []impl.Event{event(1, 9)}
	k.Left, k.Every = []int{2, 1}, []int{2, 0}
	drops := [][]impl.Rec{{rec(2, 0, 1)}, {rec(2, 0, 0)}, {}, {rec(2, 0, 0)}, {}, {rec(2, 0, 0)}}
	for n, want := range drops {
		got := afterTick(s, k)
		same(t, "records", got.recs, want)
		same(t, "queue", got.kernel.Queues[0], k.Queues[0])
		if got.kernel.Left[0] != 1+one(n%2 == 1) || got.kernel.Left[1] != 0 {
			t.Error(n, got.kernel)
		}
		k = got.kernel
	}
}

func TestPromise13AllTimers(t *testing.T) {
	s := impl.System{Sigs: 1, Objects: []impl.Object{plain(1, 1000, 0, on(0, emit(arg())))}, Timers: make([]impl.Timer, 200)}
	k := standing(s)
	want := []int{}
	for i := range 200 {
		k.Left[i] = 1 + i%3
		if i%3 == 0 {
			want = append(want, i)
		}
	}
	fired, _ := firings(t, s, k, 1)
	same(t, "timers", fired[1], want)
}

// Ticks alone, any number of timers: the n-th puts the event of timer i exactly if n is its count, or that and a multiple of its interval.
func TestPromise13AnyTimers(t *testing.T) {
	r := fixedRandom()
	for range 200 {
		s := clock(1 + r.Intn(8))
		k := standing(s)
		for i := range k.Left {
			k.Left[i] = r.Intn(6)
			k.Every[i] = r.Intn(5) * one(k.Left[i] > 0)
		}
		fired, _ := firings(t, s, k, 25)
		for n := 1; n <= 25; n++ {
			var want []int
			for i, count := range k.Left {
				every := k.Every[i]
				if count > 0 && (n == count || every > 0 && n > count && (n-count)%every == 0) {
					want = append(want, i)
				}
			}
			same(t, "timers", fired[n], want)
		}
	}
}
