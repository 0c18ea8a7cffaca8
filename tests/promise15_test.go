package tests

import (
	"fmt"
	"slices"
	"strings"
	"testing"

	"loop.example/s0063/impl"
)

// nextLine is the number of the line that comes after standingText.
const nextLine = 6

// standingText has a signals line and an object with a variable, a state and a transition: any line but signals can follow.
func standingText() string {
	return lines("signals 3", "object 1 1 1", "var u8 1", "state -1 -1", "on 0 0 -1")
}

// follows wants a line after standingText to be right or wrong.
func follows(t *testing.T, line string, right bool) {
	t.Helper()
	readsAs(t, standingText()+line, nextLine*one(!right))
	readsAs(t, standingText()+line+"\n", nextLine*one(!right))
}

// numberPlaces are lines with @ at one place that takes a number and nothing else.
func numberPlaces() []string {
	list := []string{"object @ 1 1", "object 1 @ 1", "object 1 1 @", "var i8 @", "var u32 @", "sub @", "state @ -1", "state -1 @", "on @ 0 0", "on 0 @ 0", "on 0 0 @", "on @ 0 0 arg", "on 0 0 @ arg", "timer @ 0", "timer 0 @"}
	for _, keyword := range []string{"entry", "exit", "do"} {
		for _, stm := range []string{"set @", "set @ 1", "post @ 0 1", "post 0 @ 1", "post 0 @", "front @ 0 1", "front 0 @ 1", "publish @", "publish @ 1", "arm @ 0 1", "arm 0 @ 1", "disarm @"} {
			list = append(list, keyword+" "+stm)
		}
	}
	return list
}

// codePlaces are lines with @ at one place of their CODE.
func codePlaces() []string {
	list := []string{"on 0 0 0 @", "on 0 0 0 @ 1", "on 0 0 0 1 @"}
	for _, keyword := range []string{"entry", "exit", "do"} {
		for _, stm := range []string{"set 0 @", "emit @", "emit 1 @", "emit @ 1", "post 0 1 @", "front 0 1 @", "publish 0 @", "arm 0 1 @"} {
			list = append(list, keyword+" "+stm)
		}
	}
	return list
}

func at(line, field string) string { return strings.Replace(line, "@", field, 1) }

func TestPromise15NumbersOfSystems(t *testing.T) {
	for _, field := range rightNumbers() {
		readsAs(t, at("signals @", field), 0)
		for _, line := range slices.Concat(numberPlaces(), codePlaces()) {
			follows(t, at(line, field), true)
		}
	}
	for _, field := range wrongNumbers() {
		readsAs(t, at("signals @", field), 1)
		for _, line := range slices.Concat(numberPlaces(), codePlaces()) {
			follows(t, at(line, field), false)
		}
	}
}

// A field that is an item of CODE is no number elsewhere.
func TestPromise15ItemsAreNoNumbers(t *testing.T) {
	for _, field := range slices.Concat(opWords(), kindWords(), []string{"v0", "v1"}) {
		readsAs(t, at("signals @", field), 1)
		for _, line := range numberPlaces() {
			follows(t, at(line, field), false)
		}
		for _, line := range codePlaces() {
			follows(t, at(line, field), true)
		}
	}
}

// emittedItem reads the one item of an emit line.
func emittedItem(t *testing.T, field string) (impl.Item, int) {
	t.Helper()
	s, code := impl.ParseSystem(standingText() + "entry emit " + field)
	if code != 0 {
		return impl.Item{}, code
	}
	list := s.Objects[0].Chart.States[0].Entry[0].Code
	if len(list) != 1 {
		t.Fatal(field, list)
	}
	return list[0], 0
}

func TestPromise15EveryItem(t *testing.T) {
	want := map[string]impl.Item{
		"arg": {Op: 3}, "+": {Op: 4}, "-": {Op: 5}, "*": {Op: 6}, "/": {Op: 7}, "%": {Op: 8}, "=": {Op: 9}, "<": {Op: 10}, "and": {Op: 11}, "or": {Op: 12}, "not": {Op: 13},
		"&": {Op: 14}, "|": {Op: 15}, "^": {Op: 16}, "<<": {Op: 17}, ">>": {Op: 18},
		"i8": {Op: 19, Val: 1}, "i16": {Op: 19, Val: 2}, "i32": {Op: 19, Val: 3}, "i64": {Op: 19, Val: 4}, "u8": {Op: 19, Val: 5}, "u16": {Op: 19, Val: 6}, "u32": {Op: 19, Val: 7},
		"0": {Op: 1}, "-5": {Op: 1, Val: -5}, "1000000000": {Op: 1, Val: 1000000000}, "-9223372036854775808": {Op: 1, Val: -9223372036854775808},
		"v0": {Op: 2}, "v1": {Op: 2, Val: 1}, "v31": {Op: 2, Val: 31}, "v32": {Op: 2, Val: 32}, "v9223372036854775807": {Op: 2, Val: 9223372036854775807},
	}
	for field, item := range want {
		if got, code := emittedItem(t, field); code != 0 || got != item {
			t.Errorf("%q: got %v and code %d, want %v", field, got, code, item)
		}
	}
}

func TestPromise15WrongItems(t *testing.T) {
	wrong := []string{"v", "v-1", "v-0", "v+1", "v00", "v01", "v ", "v9223372036854775808", "v12345678901234567890", "v1234567890123456789012", "vv1", "v1v", "V1", "v1.", "v\r", "v1\r", "vv", "v-", "var", "va",
		"ARG", "Arg", "args", "ar", "arg1", "++", "--", "-+", "**", "//", "%%", "==", "!=", "<=", ">", ">=", "<<<", ">>>", "AND", "And", "&&", "||", "^^", "~", "!", "nor", "xor", "nand", "notnot",
		"i", "u", "i4", "i08", "i128", "u64", "u128", "I8", "U8", "int", "i8i8", "\t", "#", "#1", "\"1\"", "'1'", "(", ")", ",", ";", "\x00", "é", "arg\r", "set", "emit", "defer", "on"}
	for _, field := range wrong {
		for _, line := range codePlaces() {
			follows(t, at(line, field), false)
		}
	}
}

func TestPromise15EveryKindOfVariable(t *testing.T) {
	for i, word := range kindWords() {
		s, code := impl.ParseSystem(standingText() + "var " + word + " -7")
		if code != 0 || !slices.Equal(s.Objects[0].Bank.Kinds, []int{5, i + 1}) || !slices.Equal(s.Objects[0].Bank.Vals, []int{1, -7}) {
			t.Errorf("%s: %d %v", word, code, s)
		}
	}
	for _, word := range slices.Concat(opWords(), []string{"", "0", "1", "5", "v0", "u64", "i", "I8", "int8", "i8 "}) {
		follows(t, "var "+word+" 1", false)
	}
}

func TestPromise15EveryStatement(t *testing.T) {
	want := map[string]impl.Stm{
		"set 4 1": {Kind: 1, A: 4, Code: code(num(1))}, "set 5": {Kind: 1, A: 5},
		"emit 1 2": {Kind: 2, Code: code(num(1), num(2))}, "emit": {Kind: 2},
		"post 4 5 6": {Kind: 3, A: 4, B: 5, Code: code(num(6))}, "post 4 5": {Kind: 3, A: 4, B: 5},
		"front 4 5 6": {Kind: 4, A: 4, B: 5, Code: code(num(6))}, "front 4 5": {Kind: 4, A: 4, B: 5},
		"publish 5 6": {Kind: 5, B: 5, Code: code(num(6))}, "publish 5": {Kind: 5, B: 5},
		"defer": {Kind: 6}, "recall": {Kind: 7},
		"arm 4 5 6": {Kind: 8, A: 4, B: 5, Code: code(num(6))}, "arm 4 5": {Kind: 8, A: 4, B: 5},
		"disarm 4": {Kind: 9, A: 4},
	}
	for stm, value := range want {
		s, code := impl.ParseSystem(standingText() + lines("entry "+stm, "do "+stm, "exit "+stm))
		if code != 0 {
			t.Errorf("%q: code %d", stm, code)
			continue
		}
		c := s.Objects[0].Chart
		if list := []impl.Stm{value}; !sameText(c.States[0].Entry, list) || !sameText(c.States[0].Exit, list) || !sameText(c.Trans[0].Action, list) {
			t.Errorf("%q: got %+v, want %+v", stm, c, value)
		}
	}
}

func TestPromise15WrongStatements(t *testing.T) {
	wrong := []string{"", "set", "set ", "set v0 1", "set arg", "set  1", "emit ", "emit  1", "post", "post 1", "post 1 ", "post v1 1 1", "post 1 arg 1", "front", "front 1", "front  1 1", "publish", "publish ", "publish arg",
		"defer 1", "defer ", "defer 0", "defer defer", "recall 1", "recall ", "arm", "arm 1", "arm 1 +", "disarm", "disarm ", "disarm 1 1", "disarm 1 ", "disarm v1",
		"SET 0 1", "Emit 1", "emits 1", "go", "1", "6", "arg", "set0 1", "set\t0 1", "entry emit 1", "on 0 0 0", " emit 1", "emit 1 ", "do emit 1", "set 0 1 \r", "defer\r"}
	for _, keyword := range []string{"entry", "exit", "do"} {
		follows(t, keyword, false)
		for _, stm := range wrong {
			follows(t, keyword+" "+stm, false)
		}
	}
}

func TestPromise15FieldsOfEveryLine(t *testing.T) {
	for _, line := range []string{"object 1 2 3", "var i8 -1", "sub 2", "state -1 4", "on 1 2 3", "on 1 2 3 v1 arg <", "timer 1 2", "entry defer", "exit emit", "do recall"} {
		follows(t, line, true)
	}
	for _, line := range []string{"object", "object 1", "object 1 2", "object 1 2 3 4", "var", "var i8", "var 1", "var i8 1 1", "sub", "sub 1 2", "state", "state 1", "state 1 2 3", "on", "on 1", "on 1 2", "timer", "timer 1", "timer 1 2 3",
		"foo", "Object 1 2 3", "objects 1 2 3", "OBJECT 1 2 3", "obj 1 2 3", "signal 3", "states 1 1", "action defer", "guard 1", "-", "0", "v0", "arg", "post 0 0 1", "tick 1", "run 1", "emit 1", "defer", "\x00", "//", "; x"} {
		follows(t, line, false)
	}
	for _, text := range []string{"signals", "signals ", "signals 1 2", "signals  1", "Signals 1", "signal 1", "SIGNALS 1", "signals\t1", "signals1"} {
		readsAs(t, text, 1)
	}
}

// Each line of the table is the first line that isn't skipped; only the signals line may be.
func TestPromise15BeforeTheSignalsLine(t *testing.T) {
	for _, line := range []string{"object 1 1 1", "var u8 1", "sub 0", "state -1 -1", "entry defer", "exit defer", "on 0 0 0", "do defer", "timer 0 0", "foo"} {
		readsAs(t, line, 1)
		readsAs(t, lines(line, "signals 1"), 1)
		readsAs(t, lines("", "# first", "", line, "signals 1"), 4)
	}
	readsAs(t, lines("signals 1"), 0)
	readsAs(t, lines("", "#", "# first", "", "signals 1"), 0)
	readsAs(t, lines("object 1 1 1", "signals 1", "signals 2"), 1)
}

func TestPromise15ASecondSignalsLine(t *testing.T) {
	readsAs(t, lines("signals 1", "signals 1"), 2)
	readsAs(t, lines("signals 0", "signals 1"), 2)
	readsAs(t, lines("signals 1", "", "signals x"), 3)
	follows(t, "signals 3", false)
	follows(t, "signals", false)
}

func TestPromise15WithoutAnObject(t *testing.T) {
	for _, line := range []string{"var u8 1", "sub 0", "state -1 -1", "entry defer", "exit defer", "on 0 0 0", "do defer"} {
		readsAs(t, lines("signals 1", line), 2)
		readsAs(t, lines("signals 1", "timer 0 0", line, "object 1 1 1"), 3)
	}
	readsAs(t, lines("signals 1", "timer 0 0"), 0)
	readsAs(t, lines("signals 1", "object 1 1 1", "var u8 1", "sub 0", "state -1 -1", "on 0 0 0"), 0)
	readsAs(t, lines("signals 1", "object 1 1 1", "on 0 0 0", "state -1 -1", "sub 0", "var u8 1"), 0)
}

func TestPromise15WithoutAStateOrATransition(t *testing.T) {
	for _, line := range []string{"entry defer", "exit defer"} {
		readsAs(t, lines("signals 1", "object 1 1 1", line), 3)
		readsAs(t, lines("signals 1", "object 1 1 1", "on 0 0 0", line), 4)
		readsAs(t, lines("signals 1", "object 1 1 1", "on 0 0 0", "state -1 -1", line), 0)
		// An earlier object's state is none of the latest object's.
		readsAs(t, lines("signals 1", "object 1 1 1", "state -1 -1", line, "object 2 1 1", line), 6)
		readsAs(t, lines("signals 1", "object 1 1 1", "state -1 -1", line, "object 2 1 1", "on 0 0 0", "var u8 1", "sub 1", line), 9)
	}
	readsAs(t, lines("signals 1", "object 1 1 1", "do defer"), 3)
	readsAs(t, lines("signals 1", "object 1 1 1", "state -1 -1", "do defer"), 4)
	readsAs(t, lines("signals 1", "object 1 1 1", "on 0 0 0", "do defer"), 0)
	readsAs(t, lines("signals 1", "object 1 1 1", "on 0 0 0", "do defer", "object 2 1 1", "do defer"), 6)
	readsAs(t, lines("signals 1", "object 1 1 1", "on 0 0 0", "do defer", "object 2 1 1", "state -1 -1", "do defer", "on 0 0 0"), 7)
	readsAs(t, lines("signals 1", "object 1 1 1", "on 0 0 0", "object 2 1 1", "on 0 0 0", "do defer"), 0)
}

// A line belongs to the latest object, state or transition, whatever stands between.
func TestPromise15TheLatest(t *testing.T) {
	s, code := impl.ParseSystem(lines("signals 1", "object 1 2 3", "state -1 1", "state 0 -1", "on 0 0 0", "timer 5 6", "entry emit 1", "on 1 0 -1", "sub 4", "exit emit 2", "do emit 3", "state 7 8", "do emit 4", "entry emit 5",
		"object 4 5 6", "state 9 10", "exit emit 6", "on 2 2 2", "do emit 7", "var i8 1"))
	if code != 0 || len(s.Objects) != 2 || len(s.Timers) != 1 {
		t.Fatal(code, s)
	}
	emitOf := func(n int) []impl.Stm { return []impl.Stm{emit(num(n))} }
	first, second := impl.Object{Prio: 1, QueueCap: 2, DeferCap: 3, Subs: []int{4}}, impl.Object{Prio: 4, QueueCap: 5, DeferCap: 6, Bank: impl.Bank{Kinds: []int{1}, Vals: []int{1}}}
	first.Chart = impl.Chart{
		States: []impl.State{{Parent: -1, Initial: 1}, {Parent: 0, Initial: -1, Entry: emitOf(1), Exit: emitOf(2)}, {Parent: 7, Initial: 8, Entry: emitOf(5)}},
		Trans:  []impl.Trans{{}, {From: 1, Target: -1, Action: []impl.Stm{emit(num(3)), emit(num(4))}}}}
	second.Chart = impl.Chart{
		States: []impl.State{{Parent: 9, Initial: 10, Exit: emitOf(6)}},
		Trans:  []impl.Trans{{From: 2, Sig: 2, Target: 2, Action: emitOf(7)}}}
	if !sameText(s.Objects, []impl.Object{first, second}) {
		t.Errorf("got %s, want %s", shown(s.Objects), shown([]impl.Object{first, second}))
	}
}

func TestPromise15SkippedLines(t *testing.T) {
	for _, line := range []string{"", "#", "##", "# x", "#  ", "#foo", "#signals 2", "#\r", "# two  blanks ", "#\t", "#\x00"} {
		follows(t, line, true)
		readsAs(t, line, -2)
		readsAs(t, line+"\n", -2)
		readsAs(t, lines(line, "signals 1", line, line, "foo"), 5)
		scriptReadsAs(t, line, 0)
		scriptReadsAs(t, lines(line, line, "run 1", line, "foo"), 5)
	}
	for _, line := range []string{" ", "  ", " #", " # x", "\t", "\t#", "\r", "\r#", " \r", "\x00", "//", "/#", "sub 1 #", "sub 1 # x", "sub 1#"} {
		follows(t, line, false)
		readsAs(t, line, 1)
		scriptReadsAs(t, line, 1)
		scriptReadsAs(t, lines("run 1", "", line), 3)
	}
}

func TestPromise15Blanks(t *testing.T) {
	for _, line := range []string{"object 1 2 3", "var i8 1", "sub 1", "state 1 2", "entry set 0 arg 1 +", "exit post 0 1 2", "on 1 2 3 arg 4 <", "do arm 1 2 3", "do defer", "timer 1 2"} {
		follows(t, line, true)
		follows(t, " "+line, false)
		follows(t, line+" ", false)
		follows(t, line+"\r", false)
		follows(t, "\t"+line, false)
		follows(t, line+"\t", false)
		for i := range line {
			if line[i] == ' ' {
				follows(t, line[:i]+" "+line[i:], false)
				follows(t, line[:i]+"\t"+line[i+1:], false)
				follows(t, line[:i]+"\u00a0"+line[i+1:], false)
			}
		}
	}
	readsAs(t, "signals 1\r\n", 1)
	readsAs(t, "signals 1\n\r\n", 2)
	readsAs(t, "signals 1\r", 1)
	readsAs(t, "signals 1\robject 1 1 1", 1)
	readsAs(t, "\xef\xbb\xbfsignals 1", 1)
}

func TestPromise15TheLastLine(t *testing.T) {
	readsAs(t, "signals 1", 0)
	readsAs(t, "signals 1\n", 0)
	readsAs(t, "signals 1\n\n\n", 0)
	readsAs(t, "signals 1\n ", 2)
	readsAs(t, "signals 1\n \n", 2)
	readsAs(t, "signals 1\n\n\nfoo", 4)
	readsAs(t, "signals 1\n\n\nfoo\n", 4)
	readsAs(t, "\n\n\n\nsignals 1", 0)
	readsAs(t, "\n\n\n\nsignals", 5)
}

func TestPromise15NoSignalsLine(t *testing.T) {
	for _, text := range []string{"", "\n", "\n\n\n", "#", "# signals 1", "#signals 1\n", "\n# a\n\n#b"} {
		readsAs(t, text, -2)
	}
	readsAs(t, "x", 1)
	readsAs(t, "\nx\n", 2)
	readsAs(t, " ", 1)
}

func TestPromise15TheFirstOfSeveral(t *testing.T) {
	readsAs(t, lines("signals 1", "# fine", "foo", "bar", "signals 2"), 3)
	readsAs(t, lines("signals x", "signals 1", "foo"), 1)
	readsAs(t, lines("signals 1", "do defer", "object 1"), 2)
	readsAs(t, lines("signals 1", "object 1", "do defer"), 2)
	all := strings.Split(strings.TrimSuffix(fullText(), "\n"), "\n")
	for i := range all {
		for j := i; j < len(all); j++ {
			text := slices.Clone(all)
			text[i], text[j] = "foo", "bar"
			readsAs(t, lines(text...), i+1)
		}
	}
}

func TestPromise15LengthOfASystem(t *testing.T) {
	for _, size := range []int{29999, 30000, 30001, 30002, 100000} {
		code := -one(size > 30000)
		fill := strings.Repeat("#", size-10)
		readsAs(t, "signals 1\n"+fill, code)
		readsAs(t, strings.Repeat("\n", size-9)+"signals 1", code)
		if code == 0 {
			code = -2
		}
		readsAs(t, strings.Repeat("\n", size), code)
		readsAs(t, "#"+strings.Repeat(" ", size-1), code)
		if code == -2 {
			code = 1
		}
		readsAs(t, strings.Repeat("x", size), code)
		readsAs(t, strings.Repeat(" ", size), code)
		readsAs(t, "foo\n"+strings.Repeat("x\n", size/2-2)+strings.Repeat("y", size%2), code)
	}
	long := "signals 1\nobject 1 1 1\nstate -1 -1\nentry emit"
	readsAs(t, long+strings.Repeat(" 1", (30000-len(long))/2), 0)
	readsAs(t, "signals "+strings.Repeat("1", 20000), 1)
	readsAs(t, "signals "+strings.Repeat("0", 20000)+"1", 1)
}

// Structure alone is looked at: the check comes after.
func TestPromise15ReadThoughTheCheckFails(t *testing.T) {
	faults := map[string][3]int{
		lines("signals 0"):                       {1, 0, 0},
		lines("signals 1"):                       {1, 0, 0},
		lines("signals -9223372036854775808"):    {1, 0, 0},
		lines("signals 65", "object 1 1 1"):      {1, 0, 0},
		lines("signals 1", "object 1 1 1"):       {11, 0, 0},
		lines("signals 1", "object 0 1 1"):       {2, 0, 0},
		lines("signals 1", "object -1 -1 -1"):    {2, 0, 0},
		standingText() + "var u8 256":            {2, 0, 0},
		standingText() + "sub 1\nsub 2\nsub 1":   {3, 0, 2},
		standingText() + "state 1 1":             {12, 0, 1},
		standingText() + "entry emit":            {15, 0, 0},
		standingText() + "entry set 1 1":         {15, 0, 0},
		standingText() + "exit emit 1000000000":  {15, 0, 0},
		standingText() + "exit emit v1":          {15, 0, 0},
		standingText() + "on 0 3 0":              {16, 0, 1},
		standingText() + "on 0 0 0 +":            {16, 0, 1},
		standingText() + "do disarm 0":           {16, 0, 0},
		standingText() + "timer 1 0":             {4, 0, 0},
		standingText() + "object 1 1 1":          {2, 1, 0},
		standingText() + "object 2 1 1\nsub 3":   {3, 1, 0},
		standingText() + "entry emit 1 2":        {15, 0, 0},
		standingText() + "timer 0 0\ntimer 0 -1": {4, 0, 1},
	}
	for text, fault := range faults {
		readsAs(t, text, 0)
		s, _ := impl.ParseSystem(text)
		wantSystemFault(t, short(text), s, fault[0], fault[1], fault[2])
	}
}

func TestPromise15MoreThanTheBounds(t *testing.T) {
	many := "signals 1\n" + strings.Repeat("object 1 1 1\n", 65) + strings.Repeat("timer 0 0\n", 201) + strings.Repeat("var i8 0\n", 33) + strings.Repeat("state -1 -1\n", 201) + strings.Repeat("entry defer\n", 51) + strings.Repeat("on 0 0 0\n", 501)
	readsAs(t, many, 0)
	s, _ := impl.ParseSystem(many)
	o := s.Objects[64]
	same(t, "counts", []int{len(s.Objects), len(s.Timers), len(o.Bank.Vals), len(o.Chart.States), len(o.Chart.States[200].Entry), len(o.Chart.Trans)}, []int{65, 201, 33, 201, 51, 501})
}

func TestPromise15AnySpoiltSystem(t *testing.T) {
	r := fixedRandom()
	wrong := 0
	for range 3000 {
		text := spoiltText(r, impl.PrintSystem(anySystem(r)))
		_, code := wantReading(text)
		readsAs(t, text, code)
		wrong += one(code != 0)
	}
	if wrong < 1000 || wrong > 2900 {
		t.Errorf("%d texts were wrong", wrong)
	}
}

// anyBytes is a text of the words that texts are made of, in no order.
func anyBytes(words []string, pick func(n int) int) string {
	var out strings.Builder
	for range pick(40) {
		out.WriteString(words[pick(len(words))])
		out.WriteString([]string{" ", " ", " ", "\n", "\n", "", "\r"}[pick(7)])
	}
	return out.String()
}

func TestPromise15AnyText(t *testing.T) {
	r := fixedRandom()
	words := slices.Concat(strings.Fields("signals object var sub state entry exit on do timer set emit post front publish defer recall arm disarm tick run # 0 1 -1 v0 -0 01"), opWords(), kindWords())
	for range 20000 {
		text := anyBytes(words, r.Intn)
		if r.Intn(2) == 0 {
			text = "signals 1\nobject 1 1 1\nstate 0 0\non 0 0 0\n" + text
		}
		_, code := wantReading(text)
		readsAs(t, text, code)
		_, code = wantScript(text)
		scriptReadsAs(t, text, code)
	}
	for range 2000 {
		raw := make([]byte, r.Intn(30))
		r.Read(raw)
		_, code := wantReading(string(raw))
		readsAs(t, string(raw), code)
		_, code = wantScript(string(raw))
		scriptReadsAs(t, string(raw), code)
	}
}

func TestPromise15EveryItemOfAScript(t *testing.T) {
	text := lines("# a script", "post 1 2 3", "", "publish 4 5", "tick 6", "run 7", "post -1 -2 -3", "publish -4 -5", "run 0", "tick 1", "tick 100", "run 10000")
	items, _ := impl.ParseScript(text)
	want := []impl.ScriptItem{{Kind: 1, Obj: 1, Sig: 2, Val: 3}, {Kind: 2, Sig: 4, Val: 5}, {Kind: 3, Val: 6}, {Kind: 4, Val: 7}, {Kind: 1, Obj: -1, Sig: -2, Val: -3}, {Kind: 2, Sig: -4, Val: -5},
		{Kind: 4}, {Kind: 3, Val: 1}, {Kind: 3, Val: 100}, {Kind: 4, Val: 10000}}
	same(t, "items", items, want)
	scriptReadsAs(t, text, 0)
	for _, empty := range []string{"", "\n", "#", "\n\n# x\n"} {
		scriptReadsAs(t, empty, 0)
	}
}

func TestPromise15NumbersOfScripts(t *testing.T) {
	places := []string{"post @ 0 0", "post 0 @ 0", "post 0 0 @", "publish @ 0", "publish 0 @"}
	for _, field := range rightNumbers() {
		for _, line := range places {
			scriptReadsAs(t, at(line, field), 0)
		}
	}
	for _, field := range slices.Concat(wrongNumbers(), opWords(), kindWords(), []string{"v0"}) {
		for _, line := range append(places, "tick @", "run @") {
			scriptReadsAs(t, lines("run 1", at(line, field)), 2)
		}
	}
}

func TestPromise15CountsOfScripts(t *testing.T) {
	for n := -2; n <= 103; n++ {
		scriptReadsAs(t, fmt.Sprint("tick ", n), one(n < 1 || n > 100))
	}
	for n := -2; n <= 10003; n++ {
		scriptReadsAs(t, fmt.Sprint("run ", n), one(n < 0 || n > 10000))
	}
	for _, field := range []string{"-9223372036854775808", "9223372036854775807", "4294967297", "18446744073709551617"} {
		scriptReadsAs(t, "tick "+field, 1)
		scriptReadsAs(t, "run "+field, 1)
	}
}

func TestPromise15WrongLinesOfScripts(t *testing.T) {
	for _, line := range []string{"post", "post 1", "post 1 2", "post 1 2 3 4", "post 1 2 3 ", " post 1 2 3", "post  1 2 3", "post 1 2 3\r", "publish", "publish 1", "publish 1 2 3", "publish 1 2 ", "tick", "tick 1 1", "tick 1 ", "tick  1",
		"run", "run 1 1", "run 1 ", "run\t1", "Run 1", "RUN 1", "ticks 1", "stop", "post arg 0 0", "signals 1", "object 1 1 1", "emit 1", "front 0 0 0", "defer", "1", "-", "v0"} {
		scriptReadsAs(t, line, 1)
		scriptReadsAs(t, lines("post 0 0 0", "", "# x", line, "foo"), 4)
	}
}

func TestPromise15LengthOfAScript(t *testing.T) {
	for _, size := range []int{29999, 30000, 30001, 30002, 100000} {
		code := -one(size > 30000)
		scriptReadsAs(t, "run 1\n"+strings.Repeat("#", size-6), code)
		scriptReadsAs(t, strings.Repeat("\n", size-5)+"run 1", code)
		scriptReadsAs(t, strings.Repeat("\n", size), code)
		if code == 0 {
			code = 1
		}
		scriptReadsAs(t, strings.Repeat("x", size), code)
		scriptReadsAs(t, strings.Repeat(" ", size), code)
	}
}

func TestPromise15NumberOfItems(t *testing.T) {
	for _, item := range []string{"run 0\n", "tick 1\n"} {
		for _, items := range []int{3998, 3999, 4000, 4001, 4002} {
			code := 4001 * one(items > 4000)
			scriptReadsAs(t, strings.Repeat(item, items), code)
			scriptReadsAs(t, strings.TrimSuffix(strings.Repeat(item, items), "\n"), code)
			if code > 0 {
				code += 2
			}
			scriptReadsAs(t, "\n#\n"+strings.Repeat(item, items), code)
		}
		full := strings.Repeat(item, 4000)
		scriptReadsAs(t, full+"\n\n# more\n\n", 0)
		scriptReadsAs(t, full+"\n\n# more\n"+item, 4004)
		scriptReadsAs(t, full+"foo\n", 4001)
		scriptReadsAs(t, full[:len(full)-len(item)]+"foo\n"+item+item, 4000)
		scriptReadsAs(t, full+"post 1 2 3\n", 4001)
		scriptReadsAs(t, full+"publish 1 2\n", 4001)
	}
}

func TestPromise15AnySpoiltScript(t *testing.T) {
	r := fixedRandom()
	for range 6000 {
		text := spoiltText(r, anyScript(r, 1+r.Intn(12)))
		_, code := wantScript(text)
		scriptReadsAs(t, text, code)
	}
}

func TestPromise15NewMemoryOfScripts(t *testing.T) {
	text := strings.Repeat("post 1 2 3\n", 100)
	first, _ := impl.ParseScript(text)
	second, _ := impl.ParseScript(text)
	newMemory(t, "a script", first, second)
	first[0].Val = 9
	third, _ := impl.ParseScript(text)
	same(t, "the answer after one was written into", third, second)
	if text != strings.Repeat("post 1 2 3\n", 100) {
		t.Error("the text was written into")
	}
}

// A wrong text leaves nothing behind: no list, and no trace in the next answer.
func TestPromise15NothingIsKept(t *testing.T) {
	for range 3 {
		readsAs(t, standingText()+"foo", nextLine)
		readsAs(t, "var u8 1", 1)
		readsAs(t, standingText(), 0)
		scriptReadsAs(t, "run 1\nrun", 2)
		scriptReadsAs(t, "run 1\n", 0)
	}
}
