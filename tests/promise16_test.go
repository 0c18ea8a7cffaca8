package tests

import (
	"fmt"
	"math/rand"
	"runtime"
	"strings"
	"sync"
	"testing"

	"loop.example/s0063/impl"
)

// exampleText is the system of 5.5.
func exampleText() string {
	return lines("signals 2", "object 5 2 1", "var u8 250", "state -1 1", "state 0 -1", "entry emit 7", "exit emit 8", "state 0 -1", "on 1 0 2 arg 3 <", "do set 0 v0 arg +", "do post 0 1 v0", "on 0 1 1", "timer 0 0")
}

// runsTo wants the lines, and that the operations of chapter 4 give the same.
func runsTo(t *testing.T, system, script string, want ...string) {
	t.Helper()
	runsAs(t, system, script, lines(want...))
	if text := wantOutcome(system, script); text != lines(want...) {
		t.Errorf("%s with %s: the operations give %s, want %s", short(system), short(script), short(text), short(lines(want...)))
	}
}

func TestPromise16TheExample(t *testing.T) {
	script := []string{"post 0 0 9", "post 0 0 2", "post 0 0 1", "run 2", "run 1"}
	want := []string{"emit 0 7", "full 0 0", "emit 0 8", "fuel 2", "ran 2", "emit 0 7", "ran 1", "object 0 1 0 0 252"}
	runsTo(t, exampleText(), lines(script...), want...)
	runsTo(t, strings.TrimSuffix(exampleText(), "\n"), strings.Join(script, "\n"), want...)
	runsTo(t, "# a system\n\n"+exampleText()+"\n#\n", "\n# a script\n"+lines(script...)+"\n", want...)
}

func TestPromise16NoItems(t *testing.T) {
	for _, script := range []string{"", "\n", "# nothing", "\n\n#\n"} {
		runsTo(t, exampleText(), script, "emit 0 7", "object 0 1 0 0 250")
	}
}

func TestPromise16WrongSystems(t *testing.T) {
	runsTo(t, "", "", "system -2")
	runsTo(t, "# signals 1", "run 1", "system -2")
	runsTo(t, exampleText()+"foo", "run 1", "system 14")
	runsTo(t, "\n\nfoo\n", "run 1", "system 3")
	runsTo(t, "signals 1\r\n", "run 1", "system 1")
	runsTo(t, exampleText()+strings.Repeat("\n", 30001-len(exampleText())), "run 1", "system -1")
	runsTo(t, exampleText()+strings.Repeat("\n", 30000-len(exampleText())), "", "emit 0 7", "object 0 1 0 0 250")
}

func TestPromise16WrongChecks(t *testing.T) {
	first := lines("signals 3", "object 1 1 1", "state -1 -1")
	second := first + lines("object 2 1 1", "sub 1", "sub 2", "state -1 1", "state 0 -1")
	for text, want := range map[string]string{
		"signals 0\n":                         "check 1 0 0",
		"signals 1\n":                         "check 1 0 0",
		"signals -5":                          "check 1 0 0",
		first + "object 1 1 1":                "check 2 1 0",
		second + "var u8 -1":                  "check 2 1 0",
		second + "sub 2":                      "check 3 1 2",
		second + "sub -1":                     "check 3 1 2",
		second + "timer 0 0\ntimer 0 3":       "check 4 0 1",
		second + "timer 0 0\ntimer 2 0":       "check 4 0 1",
		second + "object 3 1 1":               "check 11 2 0",
		second + "state 2 -1":                 "check 12 1 2",
		second + "state 1 -1":                 "check 14 1 1",
		second + "entry emit":                 "check 15 1 1",
		second + "entry set 0 1":              "check 15 1 1",
		second + "on 0 0 0\non 0 0 2":         "check 16 1 1",
		second + "on 0 0 0 v0":                "check 16 1 0",
		first + deepText() + "object 2 1 1":   "check 13 0 16",
		second + "timer 0 5\nentry disarm 1":  "check 15 1 1",
		second + "entry disarm 0\ntimer -1 0": "check 4 0 0",
	} {
		runsTo(t, text, "", want)
		runsTo(t, text, "run 1\n", want)
		runsTo(t, text, "foo", want)
	}
}

// deepText are states one inside the other, the last of them too deep.
func deepText() string {
	var out strings.Builder
	for i := range 16 {
		fmt.Fprintf(&out, "state %d %d\n", i, i+2)
	}
	return out.String()
}

func TestPromise16WrongScripts(t *testing.T) {
	runsTo(t, exampleText(), "foo", "script 1")
	runsTo(t, exampleText(), "post 0 0 9\n\nrun\nfoo", "script 3")
	runsTo(t, exampleText(), "run 10001", "script 1")
	runsTo(t, exampleText(), "tick 0", "script 1")
	runsTo(t, exampleText(), "run 1\n ", "script 2")
	runsTo(t, exampleText(), strings.Repeat("\n", 30001), "script -1")
	runsTo(t, exampleText(), strings.Repeat("\n", 30000), "emit 0 7", "object 0 1 0 0 250")
	runsTo(t, exampleText(), strings.Repeat("run 0\n", 4001), "script 4001")
}

func TestPromise16TheFirstThatHolds(t *testing.T) {
	for _, script := range []string{"", "run 1", "foo", strings.Repeat("x", 30001)} {
		runsTo(t, "foo", script, "system 1")
		runsTo(t, "signals 1\nfoo", script, "system 2")
		runsTo(t, "", script, "system -2")
		runsTo(t, strings.Repeat("x", 30001), script, "system -1")
		runsTo(t, "signals 1", script, "check 1 0 0")
	}
	runsTo(t, exampleText(), "foo", "script 1")
	runsTo(t, exampleText(), strings.Repeat("x", 30001), "script -1")
}

// One object with an action for each signal: what it records and what it changes is on a line of its own.
func TestPromise16EveryRecord(t *testing.T) {
	system := lines("signals 9", "object 7 1 1", "state -1 -1", "entry defer",
		"on 0 0 -1", "do emit arg -1 *",
		"on 0 1 -1", "do post 0 8 1", "do post 0 7 1",
		"on 0 2 -1", "do defer",
		"on 0 3 -1", "do arm 1 0 arg",
		"on 0 4 -1", "do arm 1 2 5",
		"on 0 5 -1", "do post 0 8 1", "do recall",
		"on 0 6 -1", "do front 0 8 1", "do front 0 6 1",
		"on 0 7 -1", "do post 0 8 1", "do publish 3 1",
		"sub 3", "timer 0 0", "timer 0 4")
	runsTo(t, system, "", "none 0", "object 0 0 0 0")
	runsTo(t, system, "post 0 0 5\nrun 9", "none 0", "emit 0 -5", "ran 1", "object 0 0 0 0")
	runsTo(t, system, "post 0 0 9223372036854775807\nrun 9\n", "none 0", "emit 0 -9223372036854775807", "ran 1", "object 0 0 0 0")
	runsTo(t, system, "post 0 0 -9223372036854775808\nrun 9\n", "none 0", "emit 0 -9223372036854775808", "ran 1", "object 0 0 0 0")
	runsTo(t, system, "post 0 1 0\nrun 1\n", "none 0", "full 0 7", "fuel 1", "ran 1", "object 0 0 1 0")
	runsTo(t, system, "post 0 2 0\nrun 9\npost 0 2 0\nrun 9", "none 0", "ran 1", "deferfull 0 2", "ran 1", "object 0 0 0 1")
	runsTo(t, system, "post 0 3 0\nrun 9\npost 0 3 -1\nrun 9\n", "none 0", "count 0 1", "ran 1", "count 0 1", "ran 1", "object 0 0 0 0")
	runsTo(t, system, "post 0 3 4\nrun 9\npost 0 4 0\nrun 9\n", "none 0", "ran 1", "armed 0 1", "ran 1", "object 0 0 0 0")
	runsTo(t, system, "post 0 2 0\nrun 9\npost 0 5 0\nrun 1\n", "none 0", "ran 1", "full 0 2", "fuel 1", "ran 1", "object 0 0 1 1")
	runsTo(t, system, "post 0 6 0\nrun 9\n", "none 0", "full 0 6", "ran 2", "object 0 0 0 0")
	runsTo(t, system, "post 0 7 0\nrun 9\n", "none 0", "full 0 3", "ran 2", "object 0 0 0 0")
	runsTo(t, system, "post 0 4 0\nrun 9\ntick 4\npost 0 8 0\ntick 1\nrun 1", "none 0", "ran 1", "full 0 4", "ran 1", "object 0 0 0 0")
	runsTo(t, system, "publish 3 1\npublish 3 1\npost 0 8 1", "none 0", "full 0 3", "full 0 8", "object 0 0 1 0")
	runsTo(t, system, "post 1 2 0\npost -1 3 0\npost 0 9 0\npost 0 -1 0\npublish 9 0\npublish -9223372036854775808 0\npost 64 64 64\n",
		"none 0", "range 2", "range 3", "range 9", "range -1", "range 9", "range -9223372036854775808", "range 64", "object 0 0 0 0")
	runsTo(t, system, "post 0 8 0\nrun 0\nrun 1\nrun 0\nrun 10000\n", "none 0", "fuel 0", "ran 0", "ran 1", "ran 0", "ran 0", "object 0 0 0 0")
}

// A tick item of N is N Ticks: a timer with an interval fires at each that it is due, and each record is told.
func TestPromise16TicksOfOneItem(t *testing.T) {
	system := lines("signals 2", "object 1 3 0", "state -1 -1", "entry arm 0 1 1", "entry arm 1 3 2", "on 0 0 -1", "do emit 100 arg +", "on 0 1 -1", "do emit 200 arg +", "timer 0 0", "timer 0 1")
	runsTo(t, system, "tick 1", "object 0 0 1 0")
	runsTo(t, system, "tick 2\n", "object 0 0 3 0")
	runsTo(t, system, "tick 5\n", "full 0 0", "full 0 0", "full 0 0", "full 0 1", "object 0 0 3 0")
	runsTo(t, system, "tick 2\nrun 9\ntick 2\nrun 9\ntick 1\nrun 9\n",
		"emit 0 100", "emit 0 100", "emit 0 201", "ran 3", "emit 0 100", "emit 0 100", "ran 2", "emit 0 100", "emit 0 201", "ran 2", "object 0 0 0 0")
	runsTo(t, system, "tick 1\ntick 1\ntick 1\ntick 1\ntick 1\n", "full 0 0", "full 0 0", "full 0 0", "full 0 1", "object 0 0 3 0")
	ticks := []string{}
	for n := 1; n <= 100; n++ {
		if n >= 3 {
			ticks = append(ticks, "full 0 0")
		}
		if n >= 3 && n%3 == 2 {
			ticks = append(ticks, "full 0 1")
		}
	}
	runsTo(t, system, "tick 100\n", append(ticks, "object 0 0 3 0")...)
	runsTo(t, system, "tick 50\ntick 50\n", append(ticks, "object 0 0 3 0")...)
}

// The records of a run come before its 'ran' line, and used up fuel is the last of them.
func TestPromise16AfterTheRecordsOfARun(t *testing.T) {
	system := lines("signals 1", "object 1 5 0", "state -1 -1", "on 0 0 -1", "do emit arg", "do post 0 0 arg 1 +")
	runsTo(t, system, "post 0 0 1\nrun 3\nrun 0\nrun 2\n",
		"emit 0 1", "emit 0 2", "emit 0 3", "fuel 3", "ran 3", "fuel 0", "ran 0", "emit 0 4", "emit 0 5", "fuel 2", "ran 2", "object 0 0 1 0")
	// Fuel counts anew for each run.
	runsTo(t, system, "post 0 0 1\nrun 1\nrun 1\nrun 1\n", "emit 0 1", "fuel 1", "ran 1", "emit 0 2", "fuel 1", "ran 1", "emit 0 3", "fuel 1", "ran 1", "object 0 0 1 0")
}

func TestPromise16ObjectsAtTheEnd(t *testing.T) {
	system := lines("signals 2",
		"object 1 9 9", "var i8 -128", "var i64 9223372036854775807", "var u32 4294967295", "state -1 1", "state 0 2", "state 1 -1", "entry emit 1", "state 0 -1", "on 0 0 3", "do set 0 v0 1 -", "on 3 1 -1", "do defer",
		"object 3 9 9", "state -1 -1", "entry emit 2",
		"object 2 9 9", "var i16 0", "state -1 -1", "entry emit 3", "on 0 0 -1", "do set 0 arg")
	runsTo(t, system, "", "emit 1 2", "emit 2 3", "emit 0 1", "object 0 2 0 0 -128 9223372036854775807 4294967295", "object 1 0 0 0", "object 2 0 0 0 0")
	runsTo(t, system, "post 0 0 0\npost 0 1 0\npost 0 1 0\nrun 3\npost 0 0 0\npost 1 0 0\npost 1 0 0\npost 2 0 32768\nrun 2\nrun 1\n",
		"emit 1 2", "emit 2 3", "emit 0 1", "ran 3", "fuel 2", "ran 2", "fuel 1", "ran 1",
		"object 0 3 1 2 127 9223372036854775807 4294967295", "object 1 0 0 0", "object 2 0 0 0 -32768")
	// An event that was put before the first step of its object waits until a run.
	early := lines("signals 1", "object 9 1 1", "state -1 -1", "entry post 1 0 5", "object 1 1 1", "var u8 0", "state -1 -1", "entry set 0 9", "on 0 0 -1", "do set 0 v0 arg +")
	runsTo(t, early, "", "object 0 0 0 0", "object 1 0 1 0 9")
	runsTo(t, early, "run 5", "ran 1", "object 0 0 0 0", "object 1 0 0 0 14")
}

func TestPromise16ManyObjects(t *testing.T) {
	text := "signals 1\n"
	want := []string{}
	for i := range 64 {
		text += fmt.Sprintf("object %d 1 0\nsub 0\nstate -1 -1\non 0 0 -1\ndo emit %d\n", 1+(i*7)%64, i)
		want = append(want, fmt.Sprintf("object %d 0 0 0", i))
	}
	script := "publish 0 1\npublish 0 1\nrun 64\n"
	got := impl.RunText(text, script)
	if got != wantOutcome(text, script) || !strings.HasSuffix(got, "ran 64\n"+lines(want...)) || strings.Count(got, "full ") != 64 || strings.Count(got, "emit ") != 64 {
		t.Errorf("got %s", got)
	}
}

func TestPromise16LongScripts(t *testing.T) {
	system := lines("signals 1", "object 1 2 0", "var u32 0", "state -1 -1", "on 0 0 -1", "do set 0 v0 1 +", "do post 0 0 0", "timer 0 0")
	want := []string{}
	for range 20 {
		want = append(want, "fuel 10000", "ran 10000")
	}
	runsAs(t, system, "post 0 0 0\n"+strings.Repeat("run 10000\n", 20), lines(append(want, "object 0 0 1 0 200000")...))
	runsAs(t, system, strings.Repeat("run 0\n", 4000), strings.Repeat("ran 0\n", 4000)+"object 0 0 0 0 0\n")
	runsAs(t, system, strings.Repeat("tick 100\n", 3333), "object 0 0 0 0 0\n")
	runsAs(t, system, strings.Repeat("post 0 0 0\n", 2727), strings.Repeat("full 0 0\n", 2725)+"object 0 0 2 0 0\n")
}

// A script can ask for 333300 Ticks: the system is not checked anew for each.
func TestPromise16ManyTicks(t *testing.T) {
	var text strings.Builder
	text.WriteString("signals 1\nobject 1 1 0\nstate -1 -1\n")
	for i := range 50 {
		fmt.Fprintf(&text, "entry arm %d 1 1000000\n", i)
	}
	for text.Len() < 27900 {
		text.WriteString("on 0 0 -1 arg arg + arg + arg + arg + arg + arg + arg +\n")
	}
	text.WriteString(strings.Repeat("timer 0 0\n", 200))
	runsAs(t, text.String(), strings.Repeat("tick 100\n", 3333), "object 0 0 0 0\n")
}

// pairOfTexts are mostly right: a wrong one ends in a line.
func pairOfTexts(r *rand.Rand) (string, string) {
	system, script := impl.PrintSystem(anySystem(r)), anyScript(r, 1+r.Intn(20))
	if r.Intn(10) == 0 {
		system = spoiltText(r, system)
	}
	if r.Intn(10) == 0 {
		script = spoiltText(r, script)
	}
	return system, script
}

func TestPromise16AnyTexts(t *testing.T) {
	r := fixedRandom()
	seen := map[string]int{}
	for range 1500 {
		system, script := pairOfTexts(r)
		got := impl.RunText(system, script)
		if want := wantOutcome(system, script); got != want {
			t.Fatalf("%s with %s: got %s, want %s", system, script, got, want)
		}
		for _, line := range strings.Split(got, "\n") {
			seen[strings.Split(line, " ")[0]]++
		}
	}
	for _, word := range strings.Fields("emit full deferfull range count armed fuel none ran object system check script") {
		if seen[word] == 0 {
			t.Errorf("no line %q in %v", word, seen)
		}
	}
}

// The reference of chapter 4 in plain lists, in place of its operations.
func TestPromise16AnyTextsInPlainLists(t *testing.T) {
	r := fixedRandom()
	for range 500 {
		s, script := anySystem(r), anyScript(r, 1+r.Intn(20))
		items, _ := wantScript(script)
		var want strings.Builder
		now := wantStart(s)
		tell := func(next after) {
			for _, rec := range next.recs {
				want.WriteString(recordText(rec))
			}
			now = next
		}
		tell(now)
		for _, item := range items {
			switch item.Kind {
			case 1:
				tell(wantPost(s, now.kernel, item.Obj, item.Sig, item.Val))
			case 2:
				tell(wantPublish(s, now.kernel, item.Sig, item.Val))
			case 3:
				for range item.Val {
					tell(wantTick(s, now.kernel))
				}
			case 4:
				tell(wantRun(s, now.kernel, item.Val))
				fmt.Fprintln(&want, "ran", now.taken)
			}
		}
		runsAs(t, impl.PrintSystem(s), script, want.String()+wantObjects(now.kernel))
	}
}

// An answer hangs on the two texts alone: not on earlier calls, nor on others at the same time.
func TestPromise16AFunctionOfItsTexts(t *testing.T) {
	r := fixedRandom()
	for range 30 {
		system, script := pairOfTexts(r)
		want := impl.RunText(system, script)
		var calls sync.WaitGroup
		for range 8 {
			calls.Go(func() {
				impl.RunText(exampleText(), "tick 3\nrun 9\n")
				if got := impl.RunText(strings.Clone(system), strings.Clone(script)); got != want {
					t.Errorf("%s with %s: got %s, want %s", system, script, got, want)
				}
			})
		}
		calls.Wait()
	}
}

func TestPromise16GoroutinesHaveEnded(t *testing.T) {
	system := impl.PrintSystem(manySystem(1, 64, 1))
	before := runtime.NumGoroutine()
	for range 20 {
		impl.RunText(system, "post 3 0 0\nrun 0\nrun 1\ntick 5\nrun 10000\n")
		impl.RunText(system, "foo")
		impl.RunText("foo", "")
	}
	if !endedAgain(before) {
		t.Errorf("%d goroutines before, %d after", before, runtime.NumGoroutine())
	}
}
