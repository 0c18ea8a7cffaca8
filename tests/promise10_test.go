package tests

import (
	"math"
	"slices"
	"testing"

	"loop.example/s0063/impl"
)

// effectSystem has four objects. Object 0 has the greatest Prio and carries out the list on signal 0; 2 comes after it, then 1, then 3.
// Signal 1 is for 0, 1 and 2; signal 2 for 1 and 2; signal 3 for none.
func effectSystem(list ...impl.Stm) impl.System {
	return impl.System{Sigs: 4, Timers: []impl.Timer{{Obj: 3, Sig: 0}, {Obj: 1, Sig: 2}, {Obj: 0, Sig: 3}}, Objects: []impl.Object{
		subscribing(plain(100, 2, 2, on(0, list...)), 1),
		subscribing(plain(60, 2, 2), 1, 2),
		subscribing(plain(70, 1, 0), 2, 1),
		plain(10, 3, 1),
	}}
}

func event(sig, arg int) impl.Event { return impl.Event{Sig: sig, Arg: arg} }

func rec(kind, obj, a int) impl.Rec { return impl.Rec{Kind: kind, Obj: obj, A: a} }

// busyKernel fits effectSystem; object 2's queue has no room, and timer 1 is armed.
func busyKernel() impl.Kernel {
	k := standing(effectSystem())
	k.Queues = [][]impl.Event{{}, {event(3, 51)}, {event(3, 52)}, {event(2, 53), event(1, 54)}}
	k.Defers = [][]impl.Event{{event(2, 61)}, {event(1, 62)}, {}, {event(0, 63)}}
	k.Left, k.Every = []int{0, 9, 0}, []int{0, 5, 0}
	return k
}

// oneStep lets object 0 make its step on {0, 40}, and wants the kernel to become what change makes of the one before; what is recorded of fuel is left out.
func oneStep(t *testing.T, what string, list []impl.Stm, k impl.Kernel, change func(k *impl.Kernel), recs ...impl.Rec) {
	t.Helper()
	s := effectSystem(list...)
	want := copyKernel(k)
	change(&want)
	k = copyKernel(k)
	k.Queues[0] = slices.Insert(k.Queues[0], 0, event(0, 40))
	got := afterRun(s, k, 1)
	got.recs = slices.DeleteFunc(got.recs, func(r impl.Rec) bool { return r.Kind == impl.RecFuel })
	sameAfter(t, what, got, after{want, recs, 1})
	if !impl.KernelOK(s, got.kernel) {
		t.Errorf("%s: the kernel isn't OK", what)
	}
}

func nothing(k *impl.Kernel) {}

func TestPromise10Emit(t *testing.T) {
	for _, n := range []int{math.MinInt64, -1, 0, 1, 999999999, math.MaxInt64} {
		s := effectSystem(emit(arg()))
		k := standing(s)
		k.Queues[0] = []impl.Event{event(0, n)}
		sameAfter(t, n, afterRun(s, k, 1), after{standing(s), []impl.Rec{rec(1, 0, n)}, 1})
	}
	oneStep(t, "several", []impl.Stm{emit(num(3)), emit(arg()), emit(num(3))}, busyKernel(), nothing, rec(1, 0, 3), rec(1, 0, 40), rec(1, 0, 3))
}

func TestPromise10Post(t *testing.T) {
	oneStep(t, "room", []impl.Stm{postStm(1, 2, arg())}, busyKernel(), func(k *impl.Kernel) {
		k.Queues[1] = []impl.Event{event(3, 51), event(2, 40)}
	})
	oneStep(t, "room in the third place", []impl.Stm{postStm(3, 0, num(-1))}, busyKernel(), func(k *impl.Kernel) {
		k.Queues[3] = []impl.Event{event(2, 53), event(1, 54), event(0, -1)}
	})
	oneStep(t, "to itself", []impl.Stm{postStm(0, 3, num(1)), postStm(0, 2, num(2))}, busyKernel(), func(k *impl.Kernel) {
		k.Queues[0] = []impl.Event{event(3, 1), event(2, 2)}
	})
	oneStep(t, "no room", []impl.Stm{postStm(2, 1, arg())}, busyKernel(), nothing, rec(2, 2, 1))
	oneStep(t, "no room for the third", []impl.Stm{postStm(0, 3, num(1)), postStm(0, 2, num(2)), postStm(0, 1, num(3))}, busyKernel(), func(k *impl.Kernel) {
		k.Queues[0] = []impl.Event{event(3, 1), event(2, 2)}
	}, rec(2, 0, 1))
	oneStep(t, "goes on after a drop", []impl.Stm{postStm(2, 0, num(1)), emit(num(9)), postStm(1, 0, num(1)), postStm(1, 3, num(1))}, busyKernel(), func(k *impl.Kernel) {
		k.Queues[1] = append(k.Queues[1], event(0, 1))
	}, rec(2, 2, 0), rec(1, 0, 9), rec(2, 1, 3))
}

func TestPromise10Front(t *testing.T) {
	oneStep(t, "room", []impl.Stm{frontStm(1, 2, arg())}, busyKernel(), func(k *impl.Kernel) {
		k.Queues[1] = []impl.Event{event(2, 40), event(3, 51)}
	})
	oneStep(t, "ahead of two", []impl.Stm{frontStm(3, 0, num(-1))}, busyKernel(), func(k *impl.Kernel) {
		k.Queues[3] = []impl.Event{event(0, -1), event(2, 53), event(1, 54)}
	})
	oneStep(t, "to itself", []impl.Stm{frontStm(0, 3, num(1)), frontStm(0, 2, num(2))}, busyKernel(), func(k *impl.Kernel) {
		k.Queues[0] = []impl.Event{event(2, 2), event(3, 1)}
	})
	oneStep(t, "no room", []impl.Stm{frontStm(2, 1, arg())}, busyKernel(), nothing, rec(2, 2, 1))
	oneStep(t, "both ends", []impl.Stm{postStm(0, 3, num(1)), frontStm(0, 2, num(2)), frontStm(0, 1, num(3)), postStm(0, 0, num(4))}, busyKernel(), func(k *impl.Kernel) {
		k.Queues[0] = []impl.Event{event(2, 2), event(3, 1)}
	}, rec(2, 0, 1), rec(2, 0, 0))
}

func TestPromise10PublishFromWithin(t *testing.T) {
	oneStep(t, "one of three is full", []impl.Stm{publishStm(1, arg())}, busyKernel(), func(k *impl.Kernel) {
		k.Queues[0] = []impl.Event{event(1, 40)}
		k.Queues[1] = append(k.Queues[1], event(1, 40))
	}, rec(2, 2, 1))
	oneStep(t, "itself doesn't subscribe", []impl.Stm{publishStm(2, arg())}, busyKernel(), func(k *impl.Kernel) {
		k.Queues[1] = append(k.Queues[1], event(2, 40))
	}, rec(2, 2, 2))
	oneStep(t, "nobody subscribes", []impl.Stm{publishStm(3, arg())}, busyKernel(), nothing)
	full := busyKernel()
	full.Queues[1] = append(full.Queues[1], event(0, 0))
	oneStep(t, "all others are full", []impl.Stm{publishStm(1, num(6)), publishStm(1, num(7)), publishStm(1, num(8))}, full, func(k *impl.Kernel) {
		k.Queues[0] = []impl.Event{event(1, 6), event(1, 7)}
	}, rec(2, 2, 1), rec(2, 1, 1), rec(2, 2, 1), rec(2, 1, 1), rec(2, 0, 1), rec(2, 2, 1), rec(2, 1, 1))
}

func TestPromise10Defer(t *testing.T) {
	oneStep(t, "room", []impl.Stm{deferStm()}, busyKernel(), func(k *impl.Kernel) {
		k.Defers[0] = []impl.Event{event(2, 61), event(0, 40)}
	})
	oneStep(t, "no room for the second", []impl.Stm{deferStm(), emit(num(1)), deferStm()}, busyKernel(), func(k *impl.Kernel) {
		k.Defers[0] = []impl.Event{event(2, 61), event(0, 40)}
	}, rec(1, 0, 1), rec(3, 0, 0))
	empty := busyKernel()
	empty.Defers[0] = nil
	oneStep(t, "twice", []impl.Stm{deferStm(), deferStm()}, empty, func(k *impl.Kernel) {
		k.Defers[0] = []impl.Event{event(0, 40), event(0, 40)}
	})
	s := effectSystem()
	s.Objects[2].Chart.Trans = []impl.Trans{on(3, deferStm())}
	k := busyKernel()
	want := copyKernel(k)
	want.Queues[2] = nil
	sameAfter(t, "DeferCap 0", afterRun(s, k, 1), after{want, []impl.Rec{rec(3, 2, 3), rec(7, -1, 1)}, 1})
}

func TestPromise10Recall(t *testing.T) {
	empty := busyKernel()
	empty.Defers[0] = nil
	oneStep(t, "nothing deferred", []impl.Stm{recallStm(), recallStm()}, empty, nothing)
	oneStep(t, "nothing deferred, a full queue", []impl.Stm{postStm(0, 1, num(1)), postStm(0, 1, num(2)), recallStm()}, empty, func(k *impl.Kernel) {
		k.Queues[0] = []impl.Event{event(1, 1), event(1, 2)}
	})
	two := busyKernel()
	two.Defers[0] = []impl.Event{event(2, 61), event(3, 64)}
	oneStep(t, "room: the oldest, to the front", []impl.Stm{postStm(0, 1, num(1)), recallStm()}, two, func(k *impl.Kernel) {
		k.Queues[0] = []impl.Event{event(2, 61), event(1, 1)}
		k.Defers[0] = []impl.Event{event(3, 64)}
	})
	oneStep(t, "both come back", []impl.Stm{recallStm(), recallStm(), recallStm()}, two, func(k *impl.Kernel) {
		k.Queues[0] = []impl.Event{event(3, 64), event(2, 61)}
		k.Defers[0] = nil
	})
	oneStep(t, "a full queue: all stays", []impl.Stm{postStm(0, 1, num(1)), frontStm(0, 1, num(2)), recallStm(), emit(num(5)), recallStm()}, two, func(k *impl.Kernel) {
		k.Queues[0] = []impl.Event{event(1, 2), event(1, 1)}
	}, rec(2, 0, 2), rec(1, 0, 5), rec(2, 0, 2))
	oneStep(t, "its own event, put away just before", []impl.Stm{deferStm(), recallStm(), recallStm()}, busyKernel(), func(k *impl.Kernel) {
		k.Queues[0] = []impl.Event{event(0, 40), event(2, 61)}
		k.Defers[0] = nil
	})
}

func TestPromise10Arm(t *testing.T) {
	for _, n := range []int{math.MinInt64, -1, 0} {
		s := effectSystem(armStm(0, 3, arg()), emit(num(1)), armStm(1, 3, arg()))
		k := busyKernel()
		want := copyKernel(k)
		k.Queues[0] = []impl.Event{event(0, n)}
		sameAfter(t, n, afterRun(s, k, 1), after{want, []impl.Rec{rec(5, 0, 0), rec(1, 0, 1), rec(5, 0, 1), rec(7, -1, 1)}, 1})
	}
	for _, n := range []int{1, 2, 999999999, 1000000000, math.MaxInt64} {
		s := effectSystem(armStm(0, 0, arg()), armStm(2, 999999999, arg()))
		k := standing(s)
		want := copyKernel(k)
		k.Queues[0] = []impl.Event{event(0, n)}
		want.Left, want.Every = []int{n, 0, n}, []int{0, 0, 999999999}
		sameAfter(t, n, afterRun(s, k, 1), after{want, nil, 1})
	}
	oneStep(t, "an armed timer", []impl.Stm{armStm(1, 3, num(4)), armStm(1, 0, num(1))}, busyKernel(), nothing, rec(6, 0, 1), rec(6, 0, 1))
	oneStep(t, "armed just before", []impl.Stm{armStm(2, 0, num(4)), armStm(2, 7, num(5))}, busyKernel(), func(k *impl.Kernel) {
		k.Left, k.Every = []int{0, 9, 4}, []int{0, 5, 0}
	}, rec(6, 0, 2))
}

func TestPromise10Disarm(t *testing.T) {
	oneStep(t, "an armed timer", []impl.Stm{disarmStm(1)}, busyKernel(), func(k *impl.Kernel) { k.Left, k.Every = []int{0, 0, 0}, []int{0, 0, 0} })
	oneStep(t, "one that isn't armed", []impl.Stm{disarmStm(0), disarmStm(2)}, busyKernel(), nothing)
	oneStep(t, "and armed anew", []impl.Stm{disarmStm(1), armStm(1, 0, num(2)), armStm(0, 6, num(3)), disarmStm(0)}, busyKernel(), func(k *impl.Kernel) {
		k.Left, k.Every = []int{0, 2, 0}, []int{0, 0, 0}
	})
}

func TestPromise10FirstSteps(t *testing.T) {
	s := effectSystem()
	s.Objects[0] = entering(s.Objects[0], deferStm(), emit(num(1)), deferStm(), recallStm(), armStm(1, 2, num(0)), armStm(1, 2, num(8)))
	s.Objects[1] = entering(s.Objects[1], postStm(2, 3, num(5)), postStm(2, 1, num(6)), frontStm(2, 2, num(7)), armStm(1, 0, num(3)), deferStm())
	s.Objects[3] = entering(s.Objects[3], disarmStm(1), publishStm(2, num(9)))
	want := standing(s)
	want.Queues[1], want.Queues[2] = []impl.Event{event(2, 9)}, []impl.Event{event(3, 5)}
	recs := []impl.Rec{rec(8, 0, 0), rec(1, 0, 1), rec(8, 0, 0), rec(5, 0, 1),
		rec(2, 2, 1), rec(2, 2, 2), rec(6, 1, 1), rec(8, 1, 0),
		rec(2, 2, 2)}
	sameAfter(t, "first steps", afterStart(s), after{want, recs, 0})
}

// The records of all sorts of effects stand in the order of the statements.
func TestPromise10RecordsInOrder(t *testing.T) {
	oneStep(t, "one of each", []impl.Stm{emit(num(1)), postStm(2, 0, num(1)), armStm(1, 1, num(1)), frontStm(2, 3, num(1)), deferStm(), deferStm(),
		armStm(0, 1, num(0)), postStm(0, 1, num(1)), postStm(0, 1, num(2)), recallStm(), publishStm(2, num(5)), emit(num(2))}, busyKernel(), func(k *impl.Kernel) {
		k.Defers[0] = []impl.Event{event(2, 61), event(0, 40)}
		k.Queues[0] = []impl.Event{event(1, 1), event(1, 2)}
		k.Queues[1] = append(k.Queues[1], event(2, 5))
	}, rec(1, 0, 1), rec(2, 2, 0), rec(6, 0, 1), rec(2, 2, 3), rec(3, 0, 0), rec(5, 0, 0), rec(2, 0, 2), rec(2, 2, 2), rec(1, 0, 2))
}

func TestPromise10PostFromOutside(t *testing.T) {
	s, k := effectSystem(), busyKernel()
	for _, sig := range []int{0, 3} {
		want := copyKernel(k)
		want.Queues[1] = append(want.Queues[1], event(sig, -7))
		sameAfter(t, "room", afterPost(s, k, 1, sig, -7), after{kernel: want})
		sameAfter(t, "no room", afterPost(s, k, 2, sig, 1), after{k, []impl.Rec{rec(2, 2, sig)}, 0})
	}
	for _, obj := range append(wrongIDs(4), -1) {
		for _, sig := range append(wrongIDs(4), -1, 0, 3) {
			sameAfter(t, "an object that is none", afterPost(s, k, obj, sig, 1), after{k, []impl.Rec{rec(4, -1, sig)}, 0})
		}
	}
	for _, obj := range []int{0, 2, 3} {
		for _, sig := range append(wrongIDs(4), -1) {
			sameAfter(t, "a signal that is none", afterPost(s, k, obj, sig, 1), after{k, []impl.Rec{rec(4, -1, sig)}, 0})
		}
	}
	want := copyKernel(k)
	want.Queues[0] = []impl.Event{event(1, math.MinInt64)}
	sameAfter(t, "any argument", afterPost(s, k, 0, 1, math.MinInt64), after{kernel: want})
}

func TestPromise10PublishFromOutside(t *testing.T) {
	s, k := effectSystem(), busyKernel()
	want := copyKernel(k)
	want.Queues[0] = []impl.Event{event(1, 8)}
	want.Queues[1] = append(want.Queues[1], event(1, 8))
	sameAfter(t, "one of three is full", afterPublish(s, k, 1, 8), after{want, []impl.Rec{rec(2, 2, 1)}, 0})
	more := copyKernel(want)
	more.Queues[0] = append(more.Queues[0], event(1, 9))
	sameAfter(t, "two of three are full", afterPublish(s, want, 1, 9), after{more, []impl.Rec{rec(2, 2, 1), rec(2, 1, 1)}, 0})
	sameAfter(t, "nobody subscribes", afterPublish(s, k, 3, 8), after{kernel: k})
	for _, sig := range append(wrongIDs(4), -1) {
		sameAfter(t, sig, afterPublish(s, k, sig, 1), after{k, []impl.Rec{rec(4, -1, sig)}, 0})
	}
}

// Descending Prio is told by the records alone, whatever the indices and the orders of Subs.
func TestPromise10PublishInDescendingPrio(t *testing.T) {
	r := fixedRandom()
	for range 50 {
		s := manySystem(3, 12, 0)
		k := standing(s)
		prios := r.Perm(1000)
		for i := range s.Objects {
			s.Objects[i].Prio = 1 + prios[i]
			s.Objects[i].Subs = r.Perm(3)[:1+r.Intn(3)]
			k.Queues[i] = make([]impl.Event, 1)
		}
		got, want := afterPublish(s, k, 1, 0), wantPublish(s, k, 1, 0)
		sameAfter(t, "all are full", got, want)
		for i := 1; i < len(got.recs); i++ {
			if s.Objects[got.recs[i].Obj].Prio > s.Objects[got.recs[i-1].Obj].Prio {
				t.Error("not descending")
			}
		}
	}
}

func TestPromise10TimerWithoutRoom(t *testing.T) {
	s, k := effectSystem(), busyKernel()
	s.Timers[0].Obj = 2
	k.Left, k.Every = []int{1, 1, 1}, []int{0, 4, 0}
	want := copyKernel(k)
	want.Queues[0] = []impl.Event{event(3, 2)}
	want.Queues[1] = append(want.Queues[1], event(2, 1))
	want.Left, want.Every = []int{0, 4, 0}, []int{0, 4, 0}
	sameAfter(t, "one of three finds no room", afterTick(s, k), after{want, []impl.Rec{rec(2, 2, 0)}, 0})
}

// In one long run the queue and the deferred list go round their memory many times, at both ends.
func TestPromise10QueuesGoRound(t *testing.T) {
	r := fixedRandom()
	usedUp := 0
	for most := 1; most <= 5; most++ {
		for range 40 {
			o := plain(1, most, r.Intn(most+1))
			for sig := range 4 {
				list := []impl.Stm{postStm(0, r.Intn(4), arg(), num(1), op(impl.OpAdd))}
				for range r.Intn(4) {
					more := []impl.Stm{deferStm(), recallStm(), frontStm(0, r.Intn(4), arg(), num(2), op(impl.OpMul))}
					list = slices.Insert(list, r.Intn(len(list)+1), more[r.Intn(3)])
				}
				if r.Intn(4) == 0 {
					list = []impl.Stm{recallStm()}
				}
				o.Chart.Trans = append(o.Chart.Trans, on(sig, list...))
			}
			s := impl.System{Sigs: 4, Objects: []impl.Object{o}}
			k := anyKernel(r, s)
			got := afterRun(s, k, 300)
			sameAfter(t, most, got, wantRun(s, k, 300))
			usedUp += one(got.taken == 300)
		}
	}
	if usedUp < 50 {
		t.Errorf("only %d runs were long", usedUp)
	}
}
