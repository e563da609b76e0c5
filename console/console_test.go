package console_test

import (
	"slices"
	"strings"
	"testing"

	"hostler/api"
	"hostler/console"
)

var config = api.Config{Room: 10 + 10i, Wait: 5, Window: 7, Keep: 8, First: 2, Most: 8, Quota: 8000}

func newConsole(t *testing.T) *console.Console {
	t.Helper()
	k, err := console.New(config)
	if err != api.OK || k == nil {
		t.Fatalf("New: %d", err)
	}
	return k
}

// outputs carries out lines, each of which is followed by its output.
func outputs(t *testing.T, k *console.Console, l ...string) {
	t.Helper()
	for i := 0; i < len(l); i += 2 {
		if got := k.Line(l[i]); !slices.Equal(got, []string{l[i+1]}) {
			t.Errorf("%q: %q, not %q", l[i], got, l[i+1])
		}
	}
}

func TestNew(t *testing.T) {
	outputs(t, newConsole(t), "rows", "0", "said", "0", "boxes", "0", "used", "0 0", "quiet", "no", "sound", "yes", "state f t", "none", "phase f e", "0 0", "sent f t", "none")
	for _, change := range []func(c *api.Config){func(c *api.Config) { c.Quota = 1 }, func(c *api.Config) { c.Keep = 0 }, func(c *api.Config) { c.Room = -1i }} {
		c := config
		change(&c)
		if k, err := console.New(c); err != api.ErrArg || k != nil {
			t.Errorf("%v: %d", c, err)
		}
	}
}

func TestLinesWithoutWords(t *testing.T) {
	k := newConsole(t)
	for _, s := range []string{"", " ", strings.Repeat(" ", 99)} {
		if got := k.Line(s); len(got) != 0 {
			t.Errorf("%q: %q", s, got)
		}
	}
}

func TestSteps(t *testing.T) {
	outputs(t, newConsole(t),
		"run f e a 1 2", "error 8", "tick 0", "ok", "said", "1", "welcome", "ok", "  welcome  ", "ok",
		"run f e a 1 2 b 3 4", "ok", "run f x a 1 1", "error 4", "rows", "2", "used", "4 6", "phase f e", "1 1", "state f a", "staging",
		"hello f e 2", "error 3", "hello f e 1", "ok", "phase f e", "1 2", "said", "4",
		"report f e 1 a 2", "ok", "state f a", "running", "sent f a", "1", "report f e 1 a 3", "ok", "sent f a", "1", "state f a", "finished", "used", "3 4",
		"ack f a 2 1", "error 3", "ack f a 1 1", "ok", "sent f a", "1 2", "tick 0", "ok", "tick 0", "ok", "sent f a", "1 2", "ack f a 2 1", "ok",
		"kill f z", "error 3", "kill f b", "ok", "report f e 1 b 5", "ok", "state f b", "killed", "phase f e", "1 3", "gone f e 1", "ok", "phase f e", "0 0", "boxes", "1",
		"ask f", "ok", "shut f", "ok", "run f e g 11 0", "ok", "state f g", "refused", "sent f g", "1",
		"fuse 0", "ok", "run f e h 1 1", "error 7", "tick 0", "error 7", "crash 0 0", "error 7", "tick 0", "error 7", "state f a", "finished", "crash 0", "ok", "tick 0", "ok", "boxes", "1", "rows", "3", "sound", "yes", "quiet", "no")
}

func TestRounds(t *testing.T) {
	k := newConsole(t)
	outputs(t, k, "round 0", "ok", "quiet", "yes", "run f e a 1 2", "ok", "quiet", "no", "round 0", "ok", "phase f e", "1 2", "round 3", "ok", "state f a", "running", "round 0", "ok", "state f a", "finished", "sent f a", "1 2", "phase f e", "0 0", "boxes", "1", "quiet", "no")
	for range 8 {
		outputs(t, k, "  round   999999999 ", "ok")
	}
	outputs(t, k, "quiet", "yes", "boxes", "0", "sound", "yes", "used", "0 0")
}

func TestStates(t *testing.T) {
	k := newConsole(t)
	outputs(t, k, "welcome", "ok", "run f e a 1 1 b 1 1 c 1 1 d 1 1", "ok", "hello f e 1", "ok", "report f e 1 a 4", "ok", "report f e 1 b 5", "ok", "report f e 1 c 2", "ok", "gone f e 1", "ok",
		"state f a", "failed", "state f b", "killed", "state f c", "lost", "state f d", "lost", "sent f c", "1", "ack f c 1 1", "ok", "sent f c", "1 2", "state g a", "none", "state f z", "none", "sent g a", "none", "state F A", "none", "phase F E", "0 0")
}

func TestTheCrashIsThatOfTheWorld(t *testing.T) {
	// The executors do not say Hello again, as they would behind a crash of the play.
	outputs(t, newConsole(t), "round 0", "ok", "run f e a 1 1", "ok", "round 0", "ok", "phase f e", "1 2", "crash 0", "ok", "phase f e", "1 4", "said", "3")
}

func TestTheTickIsThatOfTheWorld(t *testing.T) {
	outputs(t, newConsole(t), "tick 0", "ok", "tick 0", "ok", "said", "2", "quiet", "no", "round 0", "ok", "quiet", "yes")
}

func TestEverythingElse(t *testing.T) {
	k := newConsole(t)
	for _, s := range []string{
		"x", "used 1", "said x", "rows rows", "boxes 0", "quiet quiet", "sound x", "Used", "rows\t", "\trows",
		"round", "round x", "round -1", "round 01", "round 1 1", "round 1000000000", "Round 1", "round 1\n",
		"state", "state f", "state f t x", "phase", "phase f", "phase f e 1", "sent", "sent f", "sent f t t", "states f t",
		"run", "run f e a 0 0", "kill f", "kill f T", "tick", "tick x", "tick 1 1", "fuse -1", "crash", "crash 1 1 1", "welcome x", "register 1", "status f t 1 1 2",
		"\n", "\n\n", "welcome\n", "\nwelcome", "welcome\nwelcome", "tick 0\n", "tick 0 \n", "\n tick 0", "tick 0\ntick 0", "rows\n", "rows \n", "used\nused", "run f e a 1 1\n", "a b c d e",
	} {
		outputs(t, k, s, "error 2")
	}
	outputs(t, k, "said", "0", "state f t\n", "none", "sent f t\n", "none", "phase f e\n", "0 0", "state \n t", "none", "rows", "0")
}

func TestARefusedLineChangesNothing(t *testing.T) {
	k := newConsole(t)
	outputs(t, k, "welcome", "ok", "run f e a 1 1", "ok", "hello f e 1\n", "error 2", "phase f e", "1 1", "tick 0\n", "error 2", "said", "1")
}
