package tests

import (
	"fmt"
	"math/big"
	"math/rand"
	"regexp"
	"slices"
	"strings"
	"testing"

	"loop.example/s0063/impl"
)

// lines ends every line with byte 10.
func lines(list ...string) string {
	return strings.Join(append(list, ""), "\n")
}

// sameText compares values of plain numbers and lists; a nil list and an empty one are written alike.
func sameText(a, b any) bool { return fmt.Sprintf("%+v", a) == fmt.Sprintf("%+v", b) }

// short is a text as a message can hold it.
func short(text string) string {
	if len(text) > 300 {
		return fmt.Sprintf("%q .. %d bytes .. %q", text[:150], len(text), text[len(text)-150:])
	}
	return fmt.Sprintf("%q", text)
}

// shown is any value as a message can hold it.
func shown(v any) string {
	text := fmt.Sprintf("%+v", v)
	return text[:min(len(text), 2000)]
}

var numberPattern = regexp.MustCompile(`^(0|-?[1-9][0-9]{0,18})$`)

// wantNumber says what 5.1 says of a number.
func wantNumber(field string) (int, bool) {
	if !numberPattern.MatchString(field) {
		return 0, false
	}
	n, _ := new(big.Int).SetString(field, 10)
	return int(n.Int64()), n.IsInt64()
}

func opWords() []string {
	return strings.Fields("arg + - * / % = < and or not & | ^ << >>")
}

func kindWords() []string { return strings.Fields("i8 i16 i32 i64 u8 u16 u32") }

func wantItem(field string) (impl.Item, bool) {
	if i := slices.Index(opWords(), field); i >= 0 {
		return impl.Item{Op: 3 + i}, true
	}
	if i := slices.Index(kindWords(), field); i >= 0 {
		return impl.Item{Op: 19, Val: i + 1}, true
	}
	if strings.HasPrefix(field, "v") && !strings.HasPrefix(field, "v-") {
		n, ok := wantNumber(field[1:])
		return impl.Item{Op: 2, Val: n}, ok
	}
	n, ok := wantNumber(field)
	return impl.Item{Op: 1, Val: n}, ok
}

// A matched is what the fields of a line give for a form.
type matched struct {
	nums []int
	kind int
	code []impl.Item
	stm  impl.Stm
}

// match holds fields against a form, in which N, A and B are numbers, K is a kind, C is the rest as CODE and S is the rest as STM.
func match(form string, list []string) (matched, bool) {
	var m matched
	for _, part := range strings.Fields(form) {
		if part == "C" {
			for _, field := range list {
				item, ok := wantItem(field)
				if !ok {
					return m, false
				}
				m.code = append(m.code, item)
			}
			return m, true
		}
		if part == "S" {
			var ok bool
			m.stm, ok = wantStm(list)
			return m, ok
		}
		if len(list) == 0 {
			return m, false
		}
		field := list[0]
		list = list[1:]
		switch part {
		case "N", "A", "B":
			n, ok := wantNumber(field)
			if !ok {
				return m, false
			}
			m.nums = append(m.nums, n)
		case "K":
			m.kind = 1 + slices.Index(kindWords(), field)
			if m.kind == 0 {
				return m, false
			}
		default:
			if field != part {
				return m, false
			}
		}
	}
	return m, len(list) == 0
}

func stmFormsOfTheDocument() []string {
	return []string{"set A C", "emit C", "post A B C", "front A B C", "publish B C", "defer", "recall", "arm A B C", "disarm A"}
}

func wantStm(list []string) (impl.Stm, bool) {
	for i, form := range stmFormsOfTheDocument() {
		m, ok := match(form, list)
		if !ok {
			continue
		}
		s := impl.Stm{Kind: 1 + i, Code: m.code}
		if strings.Contains(form, " A") {
			s.A = m.nums[0]
		}
		if strings.Contains(form, " B") {
			s.B = m.nums[len(m.nums)-1]
		}
		return s, true
	}
	return impl.Stm{}, false
}

// meaningful are the lines of a text that aren't skipped, by their number.
func meaningful(text string) map[int][]string {
	found := map[int][]string{}
	for i, line := range strings.Split(text, "\n") {
		if line != "" && line[0] != '#' {
			found[i+1] = strings.Split(line, " ")
		}
	}
	return found
}

// wantReading says 5.2 line by line.
func wantReading(text string) (impl.System, int) {
	if len(text) > 30000 {
		return impl.System{}, -1
	}
	var s impl.System
	begun := false
	list := meaningful(text)
	for number := 1; number <= strings.Count(text, "\n")+1; number++ {
		if list[number] == nil {
			continue
		}
		if (list[number][0] == "signals") == begun || !readInto(&s, list[number]) {
			return impl.System{}, number
		}
		begun = true
	}
	if !begun {
		return impl.System{}, -2
	}
	return s, 0
}

// readInto is one line after the signals line, or that line itself.
func readInto(s *impl.System, list []string) bool {
	if m, ok := match("signals N", list); ok {
		s.Sigs = m.nums[0]
		return true
	}
	if m, ok := match("object N N N", list); ok {
		s.Objects = append(s.Objects, impl.Object{Prio: m.nums[0], QueueCap: m.nums[1], DeferCap: m.nums[2]})
		return true
	}
	if m, ok := match("timer N N", list); ok {
		s.Timers = append(s.Timers, impl.Timer{Obj: m.nums[0], Sig: m.nums[1]})
		return true
	}
	return len(s.Objects) > 0 && readIntoObject(&s.Objects[len(s.Objects)-1], list)
}

func readIntoObject(o *impl.Object, list []string) bool {
	c := &o.Chart
	if m, ok := match("var K N", list); ok {
		o.Bank.Kinds, o.Bank.Vals = append(o.Bank.Kinds, m.kind), append(o.Bank.Vals, m.nums[0])
		return true
	}
	if m, ok := match("sub N", list); ok {
		o.Subs = append(o.Subs, m.nums[0])
		return true
	}
	if m, ok := match("state N N", list); ok {
		c.States = append(c.States, impl.State{Parent: m.nums[0], Initial: m.nums[1]})
		return true
	}
	if m, ok := match("on N N N C", list); ok {
		c.Trans = append(c.Trans, impl.Trans{From: m.nums[0], Sig: m.nums[1], Target: m.nums[2], Guard: m.code})
		return true
	}
	if m, ok := match("entry S", list); ok && len(c.States) > 0 {
		state := &c.States[len(c.States)-1]
		state.Entry = append(state.Entry, m.stm)
		return true
	}
	if m, ok := match("exit S", list); ok && len(c.States) > 0 {
		state := &c.States[len(c.States)-1]
		state.Exit = append(state.Exit, m.stm)
		return true
	}
	if m, ok := match("do S", list); ok && len(c.Trans) > 0 {
		trans := &c.Trans[len(c.Trans)-1]
		trans.Action = append(trans.Action, m.stm)
		return true
	}
	return false
}

// wantScript says 5.4 line by line.
func wantScript(text string) ([]impl.ScriptItem, int) {
	if len(text) > 30000 {
		return nil, -1
	}
	var items []impl.ScriptItem
	list := meaningful(text)
	for number := 1; number <= strings.Count(text, "\n")+1; number++ {
		if list[number] == nil {
			continue
		}
		item, ok := wantScriptItem(list[number])
		if !ok || len(items) == 4000 {
			return nil, number
		}
		items = append(items, item)
	}
	return items, 0
}

func wantScriptItem(list []string) (impl.ScriptItem, bool) {
	if m, ok := match("post N N N", list); ok {
		return impl.ScriptItem{Kind: 1, Obj: m.nums[0], Sig: m.nums[1], Val: m.nums[2]}, true
	}
	if m, ok := match("publish N N", list); ok {
		return impl.ScriptItem{Kind: 2, Sig: m.nums[0], Val: m.nums[1]}, true
	}
	if m, ok := match("tick N", list); ok {
		return impl.ScriptItem{Kind: 3, Val: m.nums[0]}, m.nums[0] >= 1 && m.nums[0] <= 100
	}
	if m, ok := match("run N", list); ok {
		return impl.ScriptItem{Kind: 4, Val: m.nums[0]}, m.nums[0] >= 0 && m.nums[0] <= 10000
	}
	return impl.ScriptItem{}, false
}

func wantCodeText(list []impl.Item) string {
	var out strings.Builder
	for _, item := range list {
		switch item.Op {
		case 1:
			fmt.Fprintf(&out, " %d", item.Val)
		case 2:
			fmt.Fprintf(&out, " v%d", item.Val)
		case 19:
			out.WriteString(" " + kindWords()[item.Val-1])
		default:
			out.WriteString(" " + opWords()[item.Op-3])
		}
	}
	return out.String()
}

func wantStmsText(keyword string, list []impl.Stm) string {
	var out strings.Builder
	for _, s := range list {
		form := stmFormsOfTheDocument()[s.Kind-1]
		form = strings.Replace(form, " A", fmt.Sprintf(" %d", s.A), 1)
		form = strings.Replace(form, " B", fmt.Sprintf(" %d", s.B), 1)
		form = strings.Replace(form, " C", wantCodeText(s.Code), 1)
		out.WriteString(keyword + " " + form + "\n")
	}
	return out.String()
}

// wantPrinting says 5.3 for a system that passes its check.
func wantPrinting(s impl.System) string {
	var out strings.Builder
	fmt.Fprintln(&out, "signals", s.Sigs)
	for _, o := range s.Objects {
		fmt.Fprintln(&out, "object", o.Prio, o.QueueCap, o.DeferCap)
		for i, kind := range o.Bank.Kinds {
			fmt.Fprintln(&out, "var", kindWords()[kind-1], o.Bank.Vals[i])
		}
		for _, sig := range o.Subs {
			fmt.Fprintln(&out, "sub", sig)
		}
		for _, state := range o.Chart.States {
			fmt.Fprintln(&out, "state", state.Parent, state.Initial)
			out.WriteString(wantStmsText("entry", state.Entry) + wantStmsText("exit", state.Exit))
		}
		for _, x := range o.Chart.Trans {
			fmt.Fprintf(&out, "on %d %d %d%s\n", x.From, x.Sig, x.Target, wantCodeText(x.Guard))
			out.WriteString(wantStmsText("do", x.Action))
		}
	}
	for _, timer := range s.Timers {
		fmt.Fprintln(&out, "timer", timer.Obj, timer.Sig)
	}
	return out.String()
}

func recordText(r impl.Rec) string {
	word := []string{"", "emit", "full", "deferfull", "range", "count", "armed", "fuel", "none"}[r.Kind]
	switch r.Kind {
	case 4, 7:
		return fmt.Sprintln(word, r.A)
	case 8:
		return fmt.Sprintln(word, r.Obj)
	}
	return fmt.Sprintln(word, r.Obj, r.A)
}

// wantOutcome says 5.5 by the operations of chapter 4, one after another.
func wantOutcome(system, script string) string {
	s, code := wantReading(system)
	if code != 0 {
		return fmt.Sprintln("system", code)
	}
	if code, obj, place := wantSystem(s); code != 0 {
		return fmt.Sprintln("check", code, obj, place)
	}
	items, code := wantScript(script)
	if code != 0 {
		return fmt.Sprintln("script", code)
	}
	var out strings.Builder
	k, recs := impl.Start(s)
	tell := func() {
		for _, r := range recs {
			out.WriteString(recordText(r))
		}
	}
	tell()
	for _, item := range items {
		switch item.Kind {
		case 1:
			k, recs = impl.Post(s, k, item.Obj, item.Sig, item.Val)
			tell()
		case 2:
			k, recs = impl.Publish(s, k, item.Sig, item.Val)
			tell()
		case 3:
			for range item.Val {
				k, recs = impl.Tick(s, k)
				tell()
			}
		case 4:
			taken := 0
			k, recs, taken = impl.Run(s, k, item.Val)
			tell()
			fmt.Fprintln(&out, "ran", taken)
		}
	}
	return out.String() + wantObjects(k)
}

func wantObjects(k impl.Kernel) string {
	var out strings.Builder
	for i, leaf := range k.Leaf {
		fmt.Fprintf(&out, "object %d %d %d %d", i, leaf, len(k.Queues[i]), len(k.Defers[i]))
		for _, val := range k.Vals[i] {
			fmt.Fprintf(&out, " %d", val)
		}
		out.WriteString("\n")
	}
	return out.String()
}

// readsAs wants the text to be read with that code, and with what the reference gives.
func readsAs(t *testing.T, text string, code int) {
	t.Helper()
	s, got := impl.ParseSystem(text)
	want, wantCode := wantReading(text)
	if got != code || wantCode != code {
		t.Errorf("%s: got code %d, want %d (the reference gives %d)", short(text), got, code, wantCode)
	}
	if !sameText(s, want) {
		t.Errorf("%s: got %s, want %s", short(text), shown(s), shown(want))
	}
}

// scriptReadsAs is the same for a script.
func scriptReadsAs(t *testing.T, text string, code int) {
	t.Helper()
	items, got := impl.ParseScript(text)
	want, wantCode := wantScript(text)
	if got != code || wantCode != code {
		t.Errorf("%s: got code %d, want %d (the reference gives %d)", short(text), got, code, wantCode)
	}
	if !slices.Equal(items, want) {
		t.Errorf("%s: got %s, want %s", short(text), shown(items), shown(want))
	}
}

func runsAs(t *testing.T, system, script, want string) {
	t.Helper()
	if got := impl.RunText(system, script); got != want {
		t.Errorf("%s with %s: got %s, want %s", short(system), short(script), short(got), short(want))
	}
}

func rightNumbers() []string {
	return []string{"0", "1", "-1", "9", "-9", "10", "-10", "100", "999999999", "1000000000", "1000000000000000000", "1234567890123456789", "-1234567890123456789",
		"9223372036854775806", "9223372036854775807", "-9223372036854775807", "-9223372036854775808"}
}

// wrongNumbers holds nothing that has a meaning in CODE.
func wrongNumbers() []string {
	return []string{"", "-0", "+0", "00", "-00", "000", "01", "-01", "+1", "+9223372036854775807", "--1", "+-1", "-+1", "1-", "1+", "1_0", "1,0", "0x1", "0b1", "0o7", "1e3", "1.0", "1.",
		"9223372036854775808", "-9223372036854775809", "9999999999999999999", "-9999999999999999999", "10000000000000000000", "12345678901234567890", "-12345678901234567890",
		"18446744073709551615", "18446744073709551616", "18446744073709551617", "09223372036854775807", "1\r", "\r", "\t1", "1\t", "1\v", "a", "Inf", "NaN", "\x001", "1\x00", "１", "²", "−1"}
}

// anyScript gives a right script of items that are mostly in range of a small system.
func anyScript(r *rand.Rand, items int) string {
	var list []string
	for range items {
		switch r.Intn(5) {
		case 0, 1:
			list = append(list, fmt.Sprintf("post %d %d %d", r.Intn(7)-1, r.Intn(6)-1, anyNumber(r)))
		case 2:
			list = append(list, fmt.Sprintf("publish %d %d", r.Intn(6)-1, anyNumber(r)))
		case 3:
			list = append(list, fmt.Sprintf("tick %d", 1+r.Intn(5)))
		case 4:
			list = append(list, fmt.Sprintf("run %d", r.Intn(12)))
		}
	}
	return lines(list...)
}

// spoiltText changes a few bytes, or takes or doubles a line.
func spoiltText(r *rand.Rand, text string) string {
	const bytes = " \n\r\t#-+0123456789vaiu<>&|x"
	for range 1 + r.Intn(3) {
		at := r.Intn(len(text) + 1)
		c := string(bytes[r.Intn(len(bytes))])
		switch r.Intn(4) {
		case 0:
			text = text[:at] + c + text[at:]
		case 1:
			text = text[:at] + text[min(len(text), at+1):]
		case 2:
			text = text[:at] + c + text[min(len(text), at+1):]
		case 3:
			list := strings.Split(text, "\n")
			from, to := r.Intn(len(list)), r.Intn(len(list)+1)
			line := list[from]
			if r.Intn(2) == 0 {
				list[from] = ""
			}
			text = strings.Join(slices.Insert(list, to, line), "\n")
		}
	}
	return text
}
