package script_test

import (
	"fmt"
	"math"
	"slices"
	"strings"
	"testing"

	"hostler/api"
	"hostler/message"
	"hostler/script"
	"hostler/world"
)

func same(a, b script.Step) bool {
	return a.Kind == b.Kind && a.N == b.N && a.M == b.M && message.Same(a.Message, b.Message)
}

func tell(m api.Message) script.Step {
	return script.Step{Kind: script.Tell, Message: m}
}

func items(kind int, l ...api.Item) script.Step {
	m := api.Message{Kind: kind, F: "f", Items: l}
	if kind == api.Run {
		m.E = "e"
	}
	return tell(m)
}

// lines are lines as Print writes them, and their steps.
var lines = []struct {
	line string
	step script.Step
}{
	{"run f e a 2 3", items(api.Run, api.Item{T: "a", Need: 2 + 3i})},
	{"run f e a 1000 0 b 0 1000 c 1 1 d 1 2", items(api.Run, api.Item{T: "a", Need: 1000}, api.Item{T: "b", Need: 1000i}, api.Item{T: "c", Need: 1 + 1i}, api.Item{T: "d", Need: 1 + 2i})},
	{"run f e 1 2 3 4 5 6", items(api.Run, api.Item{T: "1", Need: 2 + 3i}, api.Item{T: "4", Need: 5 + 6i})},
	{"kill f t", tell(api.Message{Kind: api.Kill, F: "f", T: "t"})},
	{"kill kill kill", tell(api.Message{Kind: api.Kill, F: "kill", T: "kill"})},
	{"shut f", tell(api.Message{Kind: api.Shut, F: "f"})},
	{"shut abcdefgh", tell(api.Message{Kind: api.Shut, F: "abcdefgh"})},
	{"ack f t 2 3", tell(api.Message{Kind: api.Ack, F: "f", T: "t", Number: 2, Epoch: 3})},
	{"ack f 007 999999999 1", tell(api.Message{Kind: api.Ack, F: "f", T: "007", Number: 999999999, Epoch: 1})},
	{"ask f", items(api.Ask)},
	{"ask f a", items(api.Ask, api.Item{T: "a"})},
	{"ask f a b c d", items(api.Ask, api.Item{T: "a"}, api.Item{T: "b"}, api.Item{T: "c"}, api.Item{T: "d"})},
	{"welcome", tell(api.Message{Kind: api.Welcome})},
	{"hello f e 7", tell(api.Message{Kind: api.Hello, F: "f", E: "e", N: 7})},
	{"report f e 7 t 3", tell(api.Message{Kind: api.Report, F: "f", E: "e", N: 7, T: "t", State: 3})},
	{"gone f e 7", tell(api.Message{Kind: api.Gone, F: "f", E: "e", N: 7})},
	{"tick 0", script.Step{Kind: script.Tick}},
	{"tick 999999999", script.Step{Kind: script.Tick, N: 999999999}},
	{"fuse 0", script.Step{Kind: script.Fuse}},
	{"fuse 12", script.Step{Kind: script.Fuse, N: 12}},
	{"crash 0", script.Step{Kind: script.Crash, M: -1}},
	{"crash 5", script.Step{Kind: script.Crash, N: 5, M: -1}},
	{"crash 5 0", script.Step{Kind: script.Crash, N: 5}},
	{"crash 0 6", script.Step{Kind: script.Crash, M: 6}},
}

func TestConstants(t *testing.T) {
	if script.Tell != 1 || script.Tick != 2 || script.Fuse != 3 || script.Crash != 4 {
		t.Error("a kind has another number")
	}
}

// parses checks that the text has these steps.
func parses(t *testing.T, text string, want ...script.Step) {
	t.Helper()
	got, err := script.Parse(text)
	if err != api.OK || !slices.EqualFunc(got, want, same) {
		t.Errorf("%q: %v, %d", text, got, err)
	}
}

func TestParseOfLines(t *testing.T) {
	for _, x := range lines {
		parses(t, x.line, x.step)
		parses(t, x.line+"\n", x.step)
		parses(t, "\n  \n"+x.line+"\n\n", x.step)
		parses(t, "   "+strings.ReplaceAll(x.line, " ", "    ")+"  ", x.step)
		parses(t, x.line+"\n"+x.line, x.step, x.step)
	}
}

func TestParseOfNoSteps(t *testing.T) {
	for _, s := range []string{"", " ", "\n", "\n\n", "   \n \n  "} {
		parses(t, s)
	}
}

func TestParseOfATextOfManyLines(t *testing.T) {
	var text strings.Builder
	var want []script.Step
	for n := range 3000 {
		x := lines[n%len(lines)]
		text.WriteString(x.line + "\n")
		if n%7 == 0 {
			text.WriteString("  \n")
		}
		want = append(want, x.step)
	}
	parses(t, text.String(), want...)
}

// wrong are lines that there are not.
var wrong = []string{
	"x", "Run f e a 1 1", "welcome x", "welcome\r", "\twelcome", "welcome\t", "welcome\x00", "\u00a0welcome", "Welcome", "welcomes", "register 1", "start f e 1", "launch f e 1 a 1 1", "status f t 1 1 2", "answer f t 1", "end f e 1 t", "stop f e 1", "destroy f e 1", "1", "?",
	"run", "run f", "run f e", "run f e a", "run f e a 1", "run f e a 1 1 b", "run f e a 1 1 b 1", "run F e a 1 1", "run f E a 1 1", "run f e A 1 1", "run f e a 0 0", "run f e a 1001 0", "run f e a 1 1001", "run f e a 200000 1", "run f e a 1 200000", "run f e a 01 1", "run f e a 1 01", "run f e a -1 1", "run f e a 1 x", "run f e a 1 1 a 1 1", "run f e a 1 1 b 1 1 c 1 1 d 1 1 g 1 1", "run f e a 1 1.5", "run f e a 1 4294967297", "run f\te a 1 1",
	"kill", "kill f", "kill f t x", "kill f T", "kill F t", "kill f abcdefghi",
	"shut", "shut f t", "shut F", "shut \xff",
	"ack f t 1", "ack f t 1 1 1", "ack f t 0 1", "ack f t 1 0", "ack f t 01 1", "ack f t 1 1000000000", "ack f t 1000000000 1", "ack f t x 1", "ack f T 1 1", "ack", "ack f t -1 1", "ack f t +1 1",
	"ask", "ask F", "ask f A", "ask f a a", "ask f a b c d e", "ask f abcdefghi",
	"hello", "hello f e", "hello f e 0", "hello f e 1 1", "hello f e x", "hello F e 1", "hello f E 1", "hello f e 00",
	"report f e 1 t", "report f e 1 t 0", "report f e 1 t 8", "report f e 1 t 2 2", "report f e 0 t 2", "report f e 1 T 2", "report f e t 1 2", "report f e 1 t running", "report f e 1 t 02",
	"gone", "gone f e", "gone f e 0", "gone f e 1 1", "gone f e f",
	"tick", "tick x", "tick -1", "tick 00", "tick 1 1", "tick 1000000000", "tick 01", "tick 1_0", "tick ١",
	"fuse", "fuse x", "fuse -1", "fuse 1 1", "fuse 0000000000",
	"crash", "crash x", "crash -1", "crash 1 -1", "crash 1 1 1", "crash 1 x", "crash 1 01",
}

func TestParseOfOtherLines(t *testing.T) {
	for _, line := range wrong {
		for _, text := range []string{line, line + "\n", "welcome\n" + line, line + "\nwelcome\n", "\n" + line + "\n\n"} {
			if got, err := script.Parse(text); err != api.ErrForm || len(got) != 0 {
				t.Errorf("%q: %v, %d", text, got, err)
			}
		}
	}
}

// printed returns the lines that Print writes, without the byte 10 at the end.
func printed(t *testing.T, l ...script.Step) string {
	t.Helper()
	s, err := script.Print(l...)
	if err != api.OK {
		t.Errorf("%v: %d", l, err)
	}
	return strings.TrimSuffix(s, "\n")
}

func TestPrint(t *testing.T) {
	var text []string
	var l []script.Step
	for _, x := range lines {
		if got := printed(t, x.step); got != x.line {
			t.Errorf("%q, not %q", got, x.line)
		}
		text = append(text, x.line)
		l = append(l, x.step)
	}
	if got := printed(t, l...); got != strings.Join(text, "\n") {
		t.Errorf("%q", got)
	}
	s, err := script.Print(l...)
	if err != api.OK {
		t.Error(err)
	}
	parses(t, s, l...)
	if got := printed(t); got != "" {
		t.Errorf("%q", got)
	}
}

func TestPrintOfNeedsWithMinusZero(t *testing.T) {
	if got := printed(t, items(api.Run, api.Item{T: "a", Need: complex(1, math.Copysign(0, -1))})); got != "run f e a 1 0" {
		t.Errorf("%q", got)
	}
}

func TestPrintOfStepsWithoutALine(t *testing.T) {
	good := script.Step{Kind: script.Tick, N: 1}
	welcome := api.Message{Kind: api.Welcome}
	for _, s := range []script.Step{
		{}, {Kind: 5}, {Kind: -1}, {Kind: 0, Message: welcome}, {Kind: script.Tell},
		{Kind: script.Tell, Message: welcome, N: 1}, {Kind: script.Tell, Message: welcome, M: -1}, {Kind: script.Tell, Message: welcome, M: 1},
		{Kind: script.Tick, N: -1}, {Kind: script.Tick, N: 1000000000}, {Kind: script.Tick, N: 1, M: 1}, {Kind: script.Tick, M: -1}, {Kind: script.Tick, Message: welcome},
		{Kind: script.Fuse, N: -1}, {Kind: script.Fuse, N: 1000000000}, {Kind: script.Fuse, M: -1}, {Kind: script.Fuse, Message: api.Message{F: "f"}},
		{Kind: script.Crash, N: -1, M: -1}, {Kind: script.Crash, M: -2}, {Kind: script.Crash, N: 1, M: 1000000000}, {Kind: script.Crash, N: math.MinInt}, {Kind: script.Crash, M: -1, Message: welcome},
		tell(api.Message{Kind: api.Register, Epoch: 1}), tell(api.Message{Kind: api.Status, F: "f", T: "t", Number: 1, Epoch: 1, State: 2}), tell(api.Message{Kind: api.Answer, F: "f", T: "t", State: 2}),
		tell(api.Message{Kind: api.Answer, F: "kill", T: "f", State: 2}), tell(api.Message{Kind: api.Start, F: "hello", E: "e", N: 2}), tell(api.Message{Kind: 18}), tell(api.Message{Kind: -1}),
		tell(api.Message{Kind: api.Kill, F: "f"}), tell(api.Message{Kind: api.Kill, F: "f", T: "T"}), tell(api.Message{Kind: api.Kill, F: "f", T: "t", N: 1}), tell(api.Message{Kind: api.Kill, F: "f", T: "t u"}),
		tell(api.Message{Kind: api.Kill, F: "f", T: "t\nwelcome"}), tell(api.Message{Kind: api.Kill, F: "f", T: "t\n"}), tell(api.Message{Kind: api.Kill, F: "f ", T: "t"}), tell(api.Message{Kind: api.Kill, F: "f t"}),
		tell(api.Message{Kind: api.Ask, F: "f a"}), items(api.Ask, api.Item{T: "a b"}), items(api.Ask, api.Item{T: ""}), items(api.Ask, api.Item{T: "a", Need: 1}), items(api.Ask, api.Item{T: "a"}, api.Item{T: "a"}),
		items(api.Run), items(api.Run, api.Item{T: "a"}), items(api.Run, api.Item{T: "a", Need: 1001}), items(api.Run, api.Item{T: "a", Need: 0.5}), items(api.Run, api.Item{T: "a", Need: complex(math.NaN(), 1)}),
		items(api.Run, api.Item{T: "a 1 1 b", Need: 1}), items(api.Run, api.Item{T: "a", Need: -1}),
		tell(api.Message{Kind: api.Ack, F: "f", T: "t", Number: 1000000000, Epoch: 1}), tell(api.Message{Kind: api.Ack, F: "f", T: "t", Number: 1, Epoch: 1<<31 - 1}), tell(api.Message{Kind: api.Ack, F: "f", T: "t", Number: 0, Epoch: 1}),
		tell(api.Message{Kind: api.Hello, F: "f", E: "e"}), tell(api.Message{Kind: api.Report, F: "f", E: "e", N: 1, T: "t", State: 9}), tell(api.Message{Kind: api.Gone, F: "f", E: "e", N: math.MaxInt}),
	} {
		for _, l := range [][]script.Step{{s}, {good, s}, {s, good}} {
			if got, err := script.Print(l...); err != api.ErrArg || got != "" {
				t.Errorf("%v: %q, %d", s, got, err)
			}
		}
	}
}

func TestNumber(t *testing.T) {
	for s, want := range map[string]int{"0": 0, "1": 1, "9": 9, "10": 10, "100": 100, "123456789": 123456789, "999999999": 999999999, "100000000": 100000000} {
		if n, ok := script.Number(s); n != want || !ok {
			t.Errorf("%q: %d, %v", s, n, ok)
		}
	}
	for _, s := range []string{"", "00", "01", "000000000", "0123", "1000000000", "9999999999", "99999999999999999999", "-1", "-0", "+1", " 1", "1 ", "1\n", "x", "1x", "x1", "1_0", "0x1", "1.0", "1e3", "١", "/", ":", "1/", "1:", "\x00"} {
		if n, ok := script.Number(s); n != 0 || ok {
			t.Errorf("%q: %d, %v", s, n, ok)
		}
	}
}

func TestRun(t *testing.T) {
	c := api.Config{Room: 10 + 10i, Wait: 5, Window: 7, Keep: 8, First: 2, Most: 8, Quota: 4000}
	w, _ := world.New(c)
	l, err := script.Parse("tick 0\nrun f e a 1 1\nwelcome\nrun f e a 1 1\nkill f z\nfuse 0\nrun f e b 1 1\ntick 0\ncrash 9 1\ntick 0\ncrash 0\ntick 0\nhello f e 1\ncrash 0 0\nwelcome\ncrash 0")
	if err != api.OK {
		t.Fatal(err)
	}
	before := fmt.Sprint(l)
	got := script.Run(w, l...)
	want := []api.Errno{api.OK, api.ErrState, api.OK, api.OK, api.ErrNone, api.OK, api.ErrCrash, api.ErrCrash, api.ErrCrash, api.ErrCrash, api.OK, api.OK, api.OK, api.ErrCrash, api.ErrCrash, api.OK}
	if !slices.Equal(got, want) {
		t.Errorf("%v, not %v", got, want)
	}
	if fmt.Sprint(l) != before {
		t.Error("the argument was changed")
	}
	said := ""
	for _, x := range w.Said() {
		said += fmt.Sprint(x.Message.Kind, x.Epoch, x.Now, ";")
	}
	if said != "10 1 1;13 1 1;10 2 1;14 2 1;" {
		t.Error(said)
	}
	if l := script.Run(w); len(l) != 0 {
		t.Error(l)
	}
}

func TestRunHandsTheNumbersOver(t *testing.T) {
	c := api.Config{Room: 10, Wait: 5, Window: 7, Keep: 8, First: 4, Most: 8, Quota: 4000}
	w, _ := world.New(c)
	// The draw 2 makes the repetition come two ticks earlier.
	text := "welcome\nrun f e a 1 0\n" + strings.Repeat("tick 0\n", 4) + "tick 2\ntick 0\n"
	l, _ := script.Parse(text)
	script.Run(w, l...)
	n := len(w.Said())
	script.Run(w, script.Step{Kind: script.Tick})
	if len(w.Said()) != n+1 {
		t.Error("the draw was not handed over")
	}
	script.Run(w, script.Step{Kind: script.Fuse, N: 1})
	script.Run(w, tell(api.Message{Kind: api.Run, F: "f", E: "x", Items: []api.Item{{T: "b", Need: 1}}}))
	script.Run(w, script.Step{Kind: script.Crash, N: 5, M: 0})
	if b, _ := w.Disk().Read("box/f/x/01~"); len(b) != 5 {
		t.Errorf("%d bytes were kept", len(b))
	}
}
