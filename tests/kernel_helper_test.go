package tests

import (
	"cmp"
	"math/rand"
	"reflect"
	"slices"
	"testing"

	"loop.example/s0063/impl"
)

func postStm(obj, sig int, items ...impl.Item) impl.Stm {
	return impl.Stm{Kind: impl.StmPost, A: obj, B: sig, Code: items}
}

func frontStm(obj, sig int, items ...impl.Item) impl.Stm {
	return impl.Stm{Kind: impl.StmFront, A: obj, B: sig, Code: items}
}

func publishStm(sig int, items ...impl.Item) impl.Stm {
	return impl.Stm{Kind: impl.StmPublish, B: sig, Code: items}
}

func deferStm() impl.Stm { return impl.Stm{Kind: impl.StmDefer} }

func recallStm() impl.Stm { return impl.Stm{Kind: impl.StmRecall} }

func armStm(timer, interval int, items ...impl.Item) impl.Stm {
	return impl.Stm{Kind: impl.StmArm, A: timer, B: interval, Code: items}
}

func disarmStm(timer int) impl.Stm { return impl.Stm{Kind: impl.StmDisarm, A: timer} }

func arg() impl.Item { return op(impl.OpArg) }

// on is an internal transition of state 0.
func on(sig int, action ...impl.Stm) impl.Trans {
	return impl.Trans{Sig: sig, Target: -1, Action: action}
}

// plain is an object of one state.
func plain(prio, queue, defers int, trans ...impl.Trans) impl.Object {
	return impl.Object{Prio: prio, QueueCap: queue, DeferCap: defers, Chart: impl.Chart{States: []impl.State{{Parent: -1, Initial: -1}}, Trans: trans}}
}

// entering gives state 0 of an object its entry list.
func entering(o impl.Object, list ...impl.Stm) impl.Object {
	o.Chart = copyChart(o.Chart)
	o.Chart.States[0].Entry = list
	return o
}

func subscribing(o impl.Object, subs ...int) impl.Object {
	o.Subs = subs
	return o
}

// smallSystem has two objects with smallChart, the second one of greater Prio, and timers of both.
func smallSystem() impl.System {
	return impl.System{Sigs: 2, Timers: []impl.Timer{{Obj: 1, Sig: 0}, {Obj: 0, Sig: 1}}, Objects: []impl.Object{
		{Prio: 3, QueueCap: 2, DeferCap: 1, Bank: smallBank(), Subs: []int{1, 0}, Chart: smallChart()},
		{Prio: 7, QueueCap: 1, DeferCap: 2, Bank: smallBank(), Subs: []int{1}, Chart: smallChart()}}}
}

// smallKernel fits smallSystem, with something in every list.
func smallKernel() impl.Kernel {
	return impl.Kernel{
		Leaf:   []int{3, 6},
		Vals:   [][]int{{0}, {255}},
		Queues: [][]impl.Event{{{Sig: 1, Arg: 5}}, {{Sig: 0, Arg: -6}}},
		Defers: [][]impl.Event{{{Sig: 0, Arg: 7}}, {{Sig: 1, Arg: 8}, {Sig: 0, Arg: 9}}},
		Left:   []int{4, 0},
		Every:  []int{2, 0},
	}
}

func copySystem(s impl.System) impl.System {
	out := impl.System{Sigs: s.Sigs, Objects: slices.Clone(s.Objects), Timers: slices.Clone(s.Timers)}
	for i := range out.Objects {
		o := &out.Objects[i]
		o.Bank, o.Subs, o.Chart = cloneBank(o.Bank), slices.Clone(o.Subs), copyChart(o.Chart)
	}
	return out
}

func copyLists[T any](lists [][]T) [][]T {
	out := slices.Clone(lists)
	for i := range out {
		out[i] = slices.Clone(out[i])
	}
	return out
}

func copyKernel(k impl.Kernel) impl.Kernel {
	return impl.Kernel{Leaf: slices.Clone(k.Leaf), Vals: copyLists(k.Vals), Queues: copyLists(k.Queues), Defers: copyLists(k.Defers),
		Left: slices.Clone(k.Left), Every: slices.Clone(k.Every)}
}

// emptyKernel is a kernel of objects that stand in these leaves, with their own banks.
func emptyKernel(s impl.System, leaves ...int) impl.Kernel {
	objects, timers := len(s.Objects), len(s.Timers)
	k := impl.Kernel{Leaf: leaves, Queues: make([][]impl.Event, objects), Defers: make([][]impl.Event, objects), Left: make([]int, timers), Every: make([]int, timers)}
	for _, o := range s.Objects {
		k.Vals = append(k.Vals, slices.Clone(o.Bank.Vals))
	}
	return k
}

// standing is an empty kernel of objects of one state.
func standing(s impl.System) impl.Kernel { return emptyKernel(s, make([]int, len(s.Objects))...) }

func sameLists[T comparable](a, b [][]T) bool {
	return slices.EqualFunc(a, b, func(x, y []T) bool { return slices.Equal(x, y) })
}

func sameKernel(a, b impl.Kernel) bool {
	return slices.Equal(a.Leaf, b.Leaf) && sameLists(a.Vals, b.Vals) && sameLists(a.Queues, b.Queues) && sameLists(a.Defers, b.Defers) &&
		slices.Equal(a.Left, b.Left) && slices.Equal(a.Every, b.Every)
}

// An after is what an operation answers; taken is 0 for all but Run.
type after struct {
	kernel impl.Kernel
	recs   []impl.Rec
	taken  int
}

func afterStart(s impl.System) after {
	k, recs := impl.Start(s)
	return after{k, recs, 0}
}

func afterPost(s impl.System, k impl.Kernel, obj, sig, arg int) after {
	k, recs := impl.Post(s, k, obj, sig, arg)
	return after{k, recs, 0}
}

func afterPublish(s impl.System, k impl.Kernel, sig, arg int) after {
	k, recs := impl.Publish(s, k, sig, arg)
	return after{k, recs, 0}
}

func afterTick(s impl.System, k impl.Kernel) after {
	k, recs := impl.Tick(s, k)
	return after{k, recs, 0}
}

func afterRun(s impl.System, k impl.Kernel, fuel int) after {
	k, recs, taken := impl.Run(s, k, fuel)
	return after{k, recs, taken}
}

// operations are all that take a kernel, each with arguments that are in range for any system.
func operations() map[string]func(s impl.System, k impl.Kernel) after {
	return map[string]func(s impl.System, k impl.Kernel) after{
		"post":    func(s impl.System, k impl.Kernel) after { return afterPost(s, k, 0, 0, 1) },
		"publish": func(s impl.System, k impl.Kernel) after { return afterPublish(s, k, 0, 1) },
		"tick":    afterTick,
		"run":     func(s impl.System, k impl.Kernel) after { return afterRun(s, k, 20) },
	}
}

func sameAfter(t *testing.T, what any, got, want after) {
	t.Helper()
	if got.taken != want.taken || !slices.Equal(got.recs, want.recs) {
		t.Errorf("%v: got records %v and %d taken, want %v and %d", what, got.recs, got.taken, want.recs, want.taken)
	}
	if !sameKernel(got.kernel, want.kernel) {
		t.Errorf("%v: got kernel %v, want %v", what, got.kernel, want.kernel)
	}
}

// A world is a kernel at work as 4.3 and 4.4 tell it, in plain lists and one after another. Its steps are those of chapter 3's reference.
type world struct {
	s    impl.System
	k    impl.Kernel
	recs []impl.Rec
}

func worldOf(s impl.System, k impl.Kernel) *world { return &world{s: s, k: copyKernel(k)} }

func (w *world) after(taken int) after { return after{w.k, w.recs, taken} }

func (w *world) record(kind, obj, a int) {
	w.recs = append(w.recs, impl.Rec{Kind: kind, Obj: obj, A: a})
}

func (w *world) descending() []int {
	var list []int
	for i := range w.s.Objects {
		list = append(list, i)
	}
	slices.SortFunc(list, func(i, j int) int { return w.s.Objects[j].Prio - w.s.Objects[i].Prio })
	return list
}

func (w *world) put(obj, place int, e impl.Event) {
	if len(w.k.Queues[obj]) == w.s.Objects[obj].QueueCap {
		w.record(2, obj, e.Sig)
		return
	}
	w.k.Queues[obj] = slices.Insert(w.k.Queues[obj], place, e)
}

func (w *world) append(obj int, e impl.Event) { w.put(obj, len(w.k.Queues[obj]), e) }

func (w *world) publish(e impl.Event) {
	for _, i := range w.descending() {
		if slices.Contains(w.s.Objects[i].Subs, e.Sig) {
			w.append(i, e)
		}
	}
}

// effects carries them out; under is the event under way, or empty for a first step.
func (w *world) effects(o int, under []impl.Event, list []impl.Effect) {
	for _, x := range list {
		e := impl.Event{Sig: x.B, Arg: x.Val}
		switch x.Kind {
		case 2:
			w.record(1, o, x.Val)
		case 3:
			w.append(x.A, e)
		case 4:
			w.put(x.A, 0, e)
		case 5:
			w.publish(e)
		case 6:
			w.putAway(o, under)
		case 7:
			w.bringBack(o)
		case 8:
			w.arm(o, x)
		case 9:
			w.k.Left[x.A], w.k.Every[x.A] = 0, 0
		}
	}
}

func (w *world) putAway(o int, under []impl.Event) {
	if len(under) == 0 {
		w.record(8, o, 0)
	} else if len(w.k.Defers[o]) == w.s.Objects[o].DeferCap {
		w.record(3, o, under[0].Sig)
	} else {
		w.k.Defers[o] = append(w.k.Defers[o], under[0])
	}
}

func (w *world) bringBack(o int) {
	if len(w.k.Defers[o]) == 0 {
		return
	}
	oldest := w.k.Defers[o][0]
	if len(w.k.Queues[o]) == w.s.Objects[o].QueueCap {
		w.record(2, o, oldest.Sig)
		return
	}
	w.k.Defers[o] = w.k.Defers[o][1:]
	w.k.Queues[o] = slices.Insert(w.k.Queues[o], 0, oldest)
}

func (w *world) arm(o int, x impl.Effect) {
	if x.Val < 1 {
		w.record(5, o, x.A)
	} else if w.k.Left[x.A] != 0 {
		w.record(6, o, x.A)
	} else {
		w.k.Left[x.A], w.k.Every[x.A] = x.Val, x.B
	}
}

func (w *world) bank(o int) impl.Bank {
	return impl.Bank{Kinds: w.s.Objects[o].Bank.Kinds, Vals: w.k.Vals[o]}
}

func (w *world) stepped(o int, under []impl.Event, out outcome) {
	w.k.Leaf[o], w.k.Vals[o] = out.leaf, slices.Clone(out.bank.Vals)
	w.effects(o, under, out.effects)
}

func wantStart(s impl.System) after {
	w := worldOf(s, standing(s))
	for _, i := range w.descending() {
		w.stepped(i, nil, wantBoot(s.Objects[i].Chart, w.bank(i)))
	}
	return w.after(0)
}

func wantPost(s impl.System, k impl.Kernel, obj, sig, arg int) after {
	w := worldOf(s, k)
	if isOne(obj, len(s.Objects)) && isOne(sig, s.Sigs) {
		w.append(obj, impl.Event{Sig: sig, Arg: arg})
	} else {
		w.record(4, -1, sig)
	}
	return w.after(0)
}

func wantPublish(s impl.System, k impl.Kernel, sig, arg int) after {
	w := worldOf(s, k)
	if isOne(sig, s.Sigs) {
		w.publish(impl.Event{Sig: sig, Arg: arg})
	} else {
		w.record(4, -1, sig)
	}
	return w.after(0)
}

func wantTick(s impl.System, k impl.Kernel) after {
	w := worldOf(s, k)
	for i, timer := range s.Timers {
		switch w.k.Left[i] {
		case 0:
		case 1:
			w.append(timer.Obj, impl.Event{Sig: timer.Sig, Arg: i})
			w.k.Left[i] = w.k.Every[i]
		default:
			w.k.Left[i]--
		}
	}
	return w.after(0)
}

// withEvent is the object of the greatest Prio that has an event, or -1.
func (w *world) withEvent() int {
	for _, i := range w.descending() {
		if len(w.k.Queues[i]) > 0 {
			return i
		}
	}
	return -1
}

func wantRun(s impl.System, k impl.Kernel, fuel int) after {
	w := worldOf(s, k)
	taken := 0
	for ; taken < fuel && w.withEvent() >= 0; taken++ {
		i := w.withEvent()
		e := w.k.Queues[i][0]
		w.k.Queues[i] = slices.Clone(w.k.Queues[i][1:])
		w.stepped(i, []impl.Event{e}, wantStep(s.Objects[i].Chart, w.k.Leaf[i], w.bank(i), e))
	}
	if w.withEvent() >= 0 {
		w.record(7, -1, fuel)
	}
	return w.after(taken)
}

// anySystem gives a right system of small capacities, of charts that use every kind of statement.
func anySystem(r *rand.Rand) impl.System {
	s := impl.System{Sigs: 1 + r.Intn(4), Objects: make([]impl.Object, 1+r.Intn(5)), Timers: make([]impl.Timer, 1+r.Intn(4))}
	prios := r.Perm(impl.MaxPrio)
	for i := range s.Objects {
		vars := 1 + r.Intn(4)
		lim := impl.Limits{Objs: len(s.Objects), Sigs: s.Sigs, Timers: len(s.Timers), Vars: vars}
		s.Objects[i] = impl.Object{Prio: 1 + prios[i], QueueCap: 1 + r.Intn(4), DeferCap: r.Intn(3), Bank: bankOf(r, vars),
			Subs: r.Perm(s.Sigs)[:r.Intn(s.Sigs+1)], Chart: shortArms(r, busyChart(r, 7, lim))}
	}
	for i := range s.Timers {
		s.Timers[i] = impl.Timer{Obj: r.Intn(len(s.Objects)), Sig: r.Intn(s.Sigs)}
	}
	return s
}

// shortArms lets timers fire within a few ticks: a count taken from any expression hardly ever would.
func shortArms(r *rand.Rand, c impl.Chart) impl.Chart {
	shorten := func(list []impl.Stm) {
		for i := range list {
			if list[i].Kind == impl.StmArm {
				list[i].B, list[i].Code = r.Intn(4), code(num(r.Intn(6)-1))
			}
		}
	}
	for i := range c.States {
		shorten(c.States[i].Entry)
		shorten(c.States[i].Exit)
	}
	for j := range c.Trans {
		shorten(c.Trans[j].Action)
	}
	return c
}

func anyEvents(r *rand.Rand, most, sigs int) []impl.Event {
	list := make([]impl.Event, r.Intn(most+1))
	for i := range list {
		list[i] = impl.Event{Sig: r.Intn(sigs), Arg: anyNumber(r)}
	}
	return list
}

// anyKernel gives a kernel that fits the system, reached by no operation.
func anyKernel(r *rand.Rand, s impl.System) impl.Kernel {
	var k impl.Kernel
	for _, o := range s.Objects {
		leaves := leavesOf(o.Chart)
		vals := make([]int, len(o.Bank.Vals))
		for v := range vals {
			vals[v] = wantConv(anyNumber(r), o.Bank.Kinds[v])
		}
		k.Leaf = append(k.Leaf, leaves[r.Intn(len(leaves))])
		k.Vals = append(k.Vals, vals)
		k.Queues = append(k.Queues, anyEvents(r, o.QueueCap, s.Sigs))
		k.Defers = append(k.Defers, anyEvents(r, o.DeferCap, s.Sigs))
	}
	for range s.Timers {
		left, every := r.Intn(4), 0
		if left > 0 {
			every = r.Intn(4)
		}
		k.Left, k.Every = append(k.Left, left), append(k.Every, every)
	}
	return k
}

// A span is a piece of memory that a list stands in.
type span struct {
	from, to uintptr
}

// spansOf are those of all lists anywhere in a value, each up to its capacity.
func spansOf(v reflect.Value) []span {
	var list []span
	switch v.Kind() {
	case reflect.Struct:
		for i := range v.NumField() {
			list = append(list, spansOf(v.Field(i))...)
		}
	case reflect.Slice:
		if size := uintptr(v.Cap()) * v.Type().Elem().Size(); size > 0 {
			list = append(list, span{v.Pointer(), v.Pointer() + size})
		}
		for i := range v.Len() {
			list = append(list, spansOf(v.Index(i))...)
		}
	}
	return list
}

// newMemory finds out whether the lists of an answer share memory with one another or with an argument.
func newMemory(t *testing.T, what, answer any, args ...any) {
	t.Helper()
	own := spansOf(reflect.ValueOf(answer))
	slices.SortFunc(own, func(a, b span) int { return cmp.Compare(a.from, b.from) })
	for i := 1; i < len(own); i++ {
		if own[i].from < own[i-1].to {
			t.Errorf("%v: two lists of the answer share memory", what)
		}
	}
	for _, x := range args {
		for _, given := range spansOf(reflect.ValueOf(x)) {
			if slices.ContainsFunc(own, func(o span) bool { return o.from < given.to && given.from < o.to }) {
				t.Errorf("%v: the answer shares memory with an argument", what)
			}
		}
	}
}
