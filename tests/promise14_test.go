package tests

import (
	"math"
	"reflect"
	"strings"
	"testing"

	"loop.example/s0063/impl"
)

// backAgain wants a checked system to be printed as 5.3 says, and to be read back as it was if the text isn't too long.
func backAgain(t *testing.T, what any, s impl.System) {
	t.Helper()
	text := impl.PrintSystem(s)
	if text == "" || text != wantPrinting(s) {
		t.Errorf("%v: printed %s, want %s", what, short(text), short(wantPrinting(s)))
	}
	want, wantCode := s, 0
	if len(text) > 30000 {
		want, wantCode = impl.System{}, -1
	}
	if back, code := impl.ParseSystem(text); code != wantCode || !sameText(back, want) {
		t.Errorf("%v: %s is read with code %d as %s, want %s", what, short(text), code, shown(back), shown(want))
	}
}

// fullText is the printed text of a checked system that has every sort of line, statement and item.
func fullText() string {
	return lines(
		"signals 7",
		"object 1000 999 998",
		"var i8 -128", "var i16 -32768", "var i32 -2147483648", "var i64 -9223372036854775808",
		"var u8 255", "var u16 65535", "var u32 4294967295", "var i64 9223372036854775807",
		"sub 6", "sub 0", "sub 3",
		"state -1 2",
		"entry set 4 v7 arg + 1 - -2 * 3 / 4 % 5 =", "entry emit 1 2 < 3 and 4 or not 5 & 6 | 7 ^ 8 << 9 >>",
		"exit post 1 5 0 i8 i16 i32 i64 u8 u16 u32", "exit front 0 6 999999999", "exit publish 4 -999999999",
		"state 0 -1", "exit defer",
		"state 0 3", "entry recall", "entry arm 1 999999999 arg", "entry disarm 0",
		"state 2 -1",
		"on 3 6 -1 v0 not", "do defer", "do set 0 0",
		"on 0 0 3",
		"on 2 1 0 1", "do disarm 1",
		"object 1 1 0",
		"state -1 -1",
		"object 500 1000 1000",
		"sub 1",
		"state -1 -1", "entry emit 0",
		"timer 2 6", "timer 0 5")
}

// fullSystem is what fullText says, written out.
func fullSystem() impl.System {
	s := impl.System{Sigs: 7, Timers: []impl.Timer{{Obj: 2, Sig: 6}, {Obj: 0, Sig: 5}}}
	states := []impl.State{{Parent: -1, Initial: 2}, {Parent: 0, Initial: -1}, {Parent: 0, Initial: 3}, {Parent: 2, Initial: -1}}
	states[0].Entry = []impl.Stm{
		set(4, variable(7), arg(), op(4), num(1), op(5), num(-2), op(6), num(3), op(7), num(4), op(8), num(5), op(9)),
		emit(num(1), num(2), op(10), num(3), op(11), num(4), op(12), op(13), num(5), op(14), num(6), op(15), num(7), op(16), num(8), op(17), num(9), op(18))}
	states[0].Exit = []impl.Stm{
		postStm(1, 5, num(0), conv(1), conv(2), conv(3), conv(4), conv(5), conv(6), conv(7)), frontStm(0, 6, num(999999999)), publishStm(4, num(-999999999))}
	states[1].Exit = []impl.Stm{deferStm()}
	states[2].Entry = []impl.Stm{recallStm(), armStm(1, 999999999, arg()), disarmStm(0)}
	trans := []impl.Trans{
		{From: 3, Sig: 6, Target: -1, Guard: code(variable(0), op(13)), Action: []impl.Stm{deferStm(), set(0, num(0))}},
		{From: 0, Sig: 0, Target: 3},
		{From: 2, Sig: 1, Target: 0, Guard: code(num(1)), Action: []impl.Stm{disarmStm(1)}}}
	bank := impl.Bank{Kinds: []int{1, 2, 3, 4, 5, 6, 7, 4},
		Vals: []int{-128, -32768, -2147483648, math.MinInt64, 255, 65535, 4294967295, math.MaxInt64}}
	s.Objects = []impl.Object{
		{Prio: 1000, QueueCap: 999, DeferCap: 998, Bank: bank, Subs: []int{6, 0, 3}, Chart: impl.Chart{States: states, Trans: trans}},
		plain(1, 1, 0),
		subscribing(entering(plain(500, 1000, 1000), emit(num(0))), 1)}
	return s
}

func TestPromise14Constants(t *testing.T) {
	same(t, "bounds", []int{impl.MaxText, impl.MaxScript, impl.MaxItems, impl.MaxTicks}, []int{30000, 30000, 4000, 100})
	same(t, "kinds of items", []int{impl.ItemPost, impl.ItemPublish, impl.ItemTick, impl.ItemRun}, []int{1, 2, 3, 4})
}

func TestPromise14EverySortOfLine(t *testing.T) {
	if got := impl.PrintSystem(fullSystem()); got != fullText() {
		t.Errorf("printed %s", got)
	}
	s, code := impl.ParseSystem(fullText())
	if code != 0 || !sameText(s, fullSystem()) {
		t.Errorf("got %d, %s, want %s", code, shown(s), shown(fullSystem()))
	}
	backAgain(t, "every sort of line", fullSystem())
}

func TestPromise14OrdinarySystems(t *testing.T) {
	backAgain(t, "a small system", smallSystem())
	backAgain(t, "one object, no timer", manySystem(1, 1, 0))
	backAgain(t, "the greatest counts", manySystem(64, 64, 200))
	backAgain(t, "one that never rests", restless())
}

// systemWith has one object of one state with that entry list, and ids enough.
func systemWith(list ...impl.Stm) impl.System {
	s := manySystem(64, 64, 200)
	s.Objects[0] = entering(s.Objects[0], list...)
	s.Objects[0].Bank = impl.Bank{Kinds: make([]int, 32), Vals: make([]int, 32)}
	for i := range s.Objects[0].Bank.Kinds {
		s.Objects[0].Bank.Kinds[i] = 1 + i%7
	}
	return s
}

func TestPromise14EveryStatementAtItsBounds(t *testing.T) {
	lim := greatest(32)
	for kind := 1; kind <= 9; kind++ {
		row := stmRows(lim)[kind]
		for _, a := range []int{0, row.a / 2, row.a - 1} {
			for _, b := range []int{0, row.b / 2, row.b - 1} {
				s := rightStm(kind)
				s.A, s.B = a, b
				backAgain(t, s, systemWith(s))
			}
		}
	}
}

func TestPromise14EveryItem(t *testing.T) {
	for _, number := range binaryOps() {
		backAgain(t, number, systemWith(emit(num(5), num(-7), op(number))))
	}
	backAgain(t, "not", systemWith(emit(num(5), op(impl.OpNot))))
	for kind := 1; kind <= 7; kind++ {
		backAgain(t, kind, systemWith(emit(arg(), conv(kind))))
	}
	for v := range 32 {
		backAgain(t, v, systemWith(set(v, variable(v))))
	}
	for _, n := range []int{0, 1, -1, 9, 10, -10, 255, 999999999, -999999999} {
		backAgain(t, n, systemWith(emit(num(n))))
	}
	backAgain(t, "MaxCode items", systemWith(emit(chain(200)...)))
}

func TestPromise14EveryKindOfVariable(t *testing.T) {
	for _, row := range kindRows() {
		s := manySystem(1, 1, 0)
		s.Objects[0].Bank = impl.Bank{Kinds: []int{row.kind, row.kind, row.kind, row.kind}, Vals: []int{row.least, 0, 1, row.most}}
		backAgain(t, row.kind, s)
	}
}

// longSystem is a checked system whose printed text has so many bytes.
func longSystem(t *testing.T, size int) impl.System {
	t.Helper()
	s := manySystem(1, 1, 0)
	o := &s.Objects[0]
	add := func(digits, nots int) {
		n := 1
		for range digits - 1 {
			n *= 10
		}
		guard := code(num(n))
		for range nots {
			guard = append(guard, op(impl.OpNot))
		}
		o.Chart.Trans = append(o.Chart.Trans, impl.Trans{Target: -1, Guard: guard})
	}
	for len(wantPrinting(s)) < size-800 {
		add(1, 99)
	}
	// A line "on 0 0 -1 N\n" has 11 bytes and the digits, and a "not" with its space has 4: the last line has 392 to 800.
	rest := size - len(wantPrinting(s)) - 11
	add(1+(rest-1)%4, (rest-1)/4)
	if len(wantPrinting(s)) != size {
		t.Fatal(size, len(wantPrinting(s)))
	}
	return s
}

func TestPromise14LongTexts(t *testing.T) {
	for _, size := range []int{29997, 29998, 29999, 30000, 30001, 30002, 30003, 60000} {
		s := longSystem(t, size)
		if got := len(impl.PrintSystem(s)); got != size {
			t.Errorf("printed %d bytes, want %d", got, size)
		}
		_, code := impl.ParseSystem(impl.PrintSystem(s))
		if want := -one(size > 30000); code != want {
			t.Errorf("%d bytes: got code %d, want %d", size, code, want)
		}
		backAgain(t, size, s)
	}
}

func TestPromise14AnySystem(t *testing.T) {
	r := fixedRandom()
	for i := range 1500 {
		s := anySystem(r)
		if i%3 == 0 {
			s.Timers = append(s.Timers, s.Timers...)
			s.Objects[0].Prio, s.Objects[0].QueueCap, s.Objects[0].DeferCap = 1, 1000, r.Intn(1001)
			for j := range s.Objects[1:] {
				s.Objects[1+j].Prio = 1000 - j
			}
		}
		backAgain(t, i, s)
	}
}

// The printed text is the same however the lines of the text that was read were ordered, as far as their order means nothing.
func TestPromise14PrintedInOneOrder(t *testing.T) {
	mixed := lines("", "# timers first", "signals 2", "timer 0 1", "object 5 2 1", "state -1 1", "exit emit 1", "entry emit 2", "exit defer", "on 0 1 1", "sub 1", "do recall",
		"state 0 -1", "do defer", "var u8 3", "timer 0 0", "entry emit 3", "on 1 0 -1 arg", "sub 0", "", "var i8 -4", "do disarm 1")
	want := lines("signals 2", "object 5 2 1", "var u8 3", "var i8 -4", "sub 1", "sub 0", "state -1 1", "entry emit 2", "exit emit 1", "exit defer", "state 0 -1", "entry emit 3",
		"on 0 1 1", "do recall", "do defer", "on 1 0 -1 arg", "do disarm 1", "timer 0 1", "timer 0 0")
	readsAs(t, mixed, 0)
	s, _ := impl.ParseSystem(mixed)
	if got := impl.PrintSystem(s); got != want {
		t.Errorf("printed %s, want %s", got, want)
	}
	backAgain(t, "mixed", s)
}

func TestPromise14NothingForAWrongSystem(t *testing.T) {
	wrong := map[string]func(s *impl.System){
		"no signal":       func(s *impl.System) { s.Sigs = 0 },
		"65 signals":      func(s *impl.System) { s.Sigs = 65 },
		"no object":       func(s *impl.System) { s.Objects = nil },
		"201 timers":      func(s *impl.System) { s.Timers = make([]impl.Timer, 201) },
		"a Prio twice":    func(s *impl.System) { s.Objects[1].Prio = 3 },
		"a QueueCap of 0": func(s *impl.System) { s.Objects[1].QueueCap = 0 },
		"a wrong value":   func(s *impl.System) { s.Objects[1].Bank.Vals[0] = 256 },
		"a kind too few":  func(s *impl.System) { s.Objects[1].Bank.Kinds = nil },
		"a sub twice":     func(s *impl.System) { s.Objects[0].Subs = []int{1, 1} },
		"no state":        func(s *impl.System) { s.Objects[0].Chart.States = nil },
		"a wrong parent":  func(s *impl.System) { s.Objects[0].Chart.States[2].Parent = 2 },
		"a kind of 10":    func(s *impl.System) { s.Objects[0].Chart.States[2].Entry[0].Kind = 10 },
		"an Op of 20":     func(s *impl.System) { s.Objects[0].Chart.Trans[2].Guard = code(op(20)) },
		"a wrong timer":   func(s *impl.System) { s.Timers[1].Obj = 2 },
	}
	for what, spoil := range wrong {
		s := smallSystem()
		spoil(&s)
		if got := impl.PrintSystem(s); got != "" {
			t.Errorf("%s: printed %s", what, short(got))
		}
	}
	if got := impl.PrintSystem(impl.System{}); got != "" {
		t.Errorf("nothing: printed %s", short(got))
	}
	r := fixedRandom()
	for range 1000 {
		s := anySystem(r)
		spoilSystem(r.Intn, &s)
		if code, _, _ := wantSystem(s); code == 0 {
			backAgain(t, "spoilt", s)
		} else if got := impl.PrintSystem(s); got != "" {
			t.Errorf("%s: printed %s", shown(s), short(got))
		}
	}
}

func TestPromise14NothingWritten(t *testing.T) {
	r := fixedRandom()
	for range 200 {
		s := anySystem(r)
		before := copySystem(s)
		impl.PrintSystem(s)
		if !reflect.DeepEqual(s, before) {
			t.Errorf("%s was written into", shown(before))
		}
	}
	text := strings.Clone(fullText())
	impl.ParseSystem(text)
	if text != fullText() {
		t.Error("the text was written into")
	}
}

// What is read shares no memory within itself, nor with what another call reads.
func TestPromise14NewMemory(t *testing.T) {
	r := fixedRandom()
	for i := range 200 {
		text := fullText()
		if i > 0 {
			text = impl.PrintSystem(anySystem(r))
		}
		first, _ := impl.ParseSystem(text)
		second, _ := impl.ParseSystem(text)
		newMemory(t, short(text), first, second)
		if !sameText(first, second) {
			t.Errorf("%s is read in two ways", short(text))
		}
	}
	first, _ := impl.ParseSystem(fullText())
	o := &first.Objects[0]
	o.Chart.States[0].Entry[0].Code[0] = num(7)
	o.Bank.Vals[0], o.Subs[0], first.Timers[0].Obj = 1, 2, 1
	if second, _ := impl.ParseSystem(fullText()); !sameText(second, fullSystem()) {
		t.Error("a call sees what was written into the answer of another")
	}
}
