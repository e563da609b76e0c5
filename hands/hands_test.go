package hands_test

import (
	"slices"
	"testing"

	"hostler/api"
	"hostler/hands"
	"hostler/message"
)

func about(kind int, f, e string, n int) api.Message {
	return api.Message{Kind: kind, F: f, E: e, N: n}
}

func launch(f, e string, n int, t string) api.Message {
	m := about(api.Launch, f, e, n)
	m.Items = []api.Item{{T: t, Need: 1 + 2i}}
	return m
}

func end(f, e string, n int, t string) api.Message {
	m := about(api.End, f, e, n)
	m.T = t
	return m
}

func report(f, e string, n int, t string, state int) api.Message {
	m := about(api.Report, f, e, n)
	m.T, m.State = t, state
	return m
}

func is(t *testing.T, what any, got []api.Message, want ...api.Message) {
	t.Helper()
	if !slices.EqualFunc(got, want, message.Same) {
		t.Errorf("%v: %v, not %v", what, got, want)
	}
}

func hears(t *testing.T, h *hands.Hands, x api.Message, want ...api.Message) {
	t.Helper()
	is(t, x, h.Hear(x), want...)
}

// started returns hands with these runs of the framework f, each with a number.
func started(t *testing.T, executors ...string) *hands.Hands {
	t.Helper()
	h := hands.New()
	for i, e := range executors {
		hears(t, h, about(api.Start, "f", e, i+1), about(api.Hello, "f", e, i+1))
	}
	return h
}

func launched(t *testing.T, h *hands.Hands, want ...api.Key) {
	t.Helper()
	if got := h.Launched(); !slices.Equal(got, want) {
		t.Errorf("%v were launched, not %v", got, want)
	}
}

func TestNewHands(t *testing.T) {
	h := hands.New()
	is(t, "Step", h.Step())
	is(t, "Hello", h.Hello())
	launched(t, h)
	if h.Live() != 0 {
		t.Error(h.Live())
	}
	for _, kind := range []int{api.Stop, api.Destroy} {
		hears(t, h, about(kind, "f", "e", 1))
	}
	hears(t, h, launch("f", "e", 1, "a"))
	hears(t, h, end("f", "e", 1, "a"))
	launched(t, h)
}

func TestStart(t *testing.T) {
	h := started(t, "e", "x")
	hears(t, h, about(api.Start, "f", "e", 1))
	hears(t, h, about(api.Start, "f", "e", 2), about(api.Hello, "f", "e", 2))
	hears(t, h, about(api.Start, "g", "e", 1), about(api.Hello, "g", "e", 1))
	is(t, "Hello", h.Hello(), about(api.Hello, "f", "e", 1), about(api.Hello, "f", "x", 2), about(api.Hello, "f", "e", 2), about(api.Hello, "g", "e", 1))
	if h.Live() != 4 {
		t.Error(h.Live())
	}
	hears(t, h, about(api.Stop, "f", "x", 2), about(api.Gone, "f", "x", 2))
	hears(t, h, about(api.Start, "f", "x", 2))
	is(t, "Hello", h.Hello(), about(api.Hello, "f", "e", 1), about(api.Hello, "f", "e", 2), about(api.Hello, "g", "e", 1))
}

func TestLaunchAndStep(t *testing.T) {
	h := started(t, "e", "x")
	hears(t, h, launch("f", "e", 1, "a"))
	hears(t, h, launch("f", "x", 2, "c"))
	hears(t, h, launch("f", "e", 1, "b"))
	launched(t, h, api.Key{F: "f", T: "a"}, api.Key{F: "f", T: "c"}, api.Key{F: "f", T: "b"})
	is(t, "Step", h.Step(), report("f", "e", 1, "a", api.Running), report("f", "x", 2, "c", api.Running))
	is(t, "Step", h.Step(), report("f", "e", 1, "a", api.Finished), report("f", "x", 2, "c", api.Finished))
	is(t, "Step", h.Step(), report("f", "e", 1, "b", api.Running))
	hears(t, h, launch("f", "x", 2, "d"))
	is(t, "Step", h.Step(), report("f", "e", 1, "b", api.Finished), report("f", "x", 2, "d", api.Running))
	is(t, "Step", h.Step(), report("f", "x", 2, "d", api.Finished))
	is(t, "Step", h.Step())
	if h.Live() != 2 {
		t.Error("a process without tasks is none")
	}
}

func TestLaunchIsOnce(t *testing.T) {
	h := started(t, "e", "x")
	hears(t, h, about(api.Start, "g", "e", 1), about(api.Hello, "g", "e", 1))
	hears(t, h, launch("f", "e", 1, "a"))
	hears(t, h, launch("f", "e", 1, "a"))
	hears(t, h, launch("f", "x", 2, "a"))
	hears(t, h, launch("g", "e", 1, "a"))
	launched(t, h, api.Key{F: "f", T: "a"}, api.Key{F: "g", T: "a"})
	is(t, "Step", h.Step(), report("f", "e", 1, "a", api.Running), report("g", "e", 1, "a", api.Running))
	is(t, "Step", h.Step(), report("f", "e", 1, "a", api.Finished), report("g", "e", 1, "a", api.Finished))
	hears(t, h, launch("f", "e", 1, "a"))
	is(t, "Step", h.Step())
}

func TestLaunchWithoutAProcess(t *testing.T) {
	h := started(t, "e")
	for _, m := range []api.Message{launch("f", "e", 2, "a"), launch("f", "x", 1, "a"), launch("g", "e", 1, "a"), about(api.Launch, "f", "e", 1)} {
		hears(t, h, m)
	}
	launched(t, h)
	is(t, "Step", h.Step())
	hears(t, h, launch("f", "e", 1, "a"))
	launched(t, h, api.Key{F: "f", T: "a"})
	hears(t, h, about(api.Destroy, "f", "e", 1), about(api.Gone, "f", "e", 1))
	hears(t, h, launch("f", "e", 1, "b"))
	launched(t, h, api.Key{F: "f", T: "a"})
}

func TestEnd(t *testing.T) {
	h := started(t, "e", "x")
	for _, s := range []string{"a", "b", "c"} {
		hears(t, h, launch("f", "e", 1, s))
	}
	for _, m := range []api.Message{end("f", "e", 1, "z"), end("f", "e", 2, "a"), end("f", "x", 2, "a"), end("g", "e", 1, "a"), end("f", "e", 1, "")} {
		hears(t, h, m)
	}
	h.Step()
	hears(t, h, end("f", "e", 1, "b"), report("f", "e", 1, "b", api.Killed))
	hears(t, h, end("f", "e", 1, "b"))
	is(t, "Step", h.Step(), report("f", "e", 1, "a", api.Finished))
	hears(t, h, end("f", "e", 1, "a"))
	is(t, "Step", h.Step(), report("f", "e", 1, "c", api.Running))
	hears(t, h, end("f", "e", 1, "c"), report("f", "e", 1, "c", api.Killed))
	is(t, "Step", h.Step())
	hears(t, h, launch("f", "e", 1, "c"))
	is(t, "Step", h.Step())
	launched(t, h, api.Key{F: "f", T: "a"}, api.Key{F: "f", T: "b"}, api.Key{F: "f", T: "c"})
}

func TestStopAndDestroy(t *testing.T) {
	for _, kind := range []int{api.Stop, api.Destroy} {
		h := started(t, "e", "x", "y")
		hears(t, h, launch("f", "e", 1, "a"))
		hears(t, h, launch("f", "x", 2, "b"))
		hears(t, h, launch("f", "y", 3, "c"))
		for _, m := range []api.Message{about(kind, "f", "x", 1), about(kind, "f", "z", 2), about(kind, "g", "x", 2)} {
			hears(t, h, m)
		}
		hears(t, h, about(kind, "f", "x", 2), about(api.Gone, "f", "x", 2))
		hears(t, h, about(kind, "f", "x", 2))
		if h.Live() != 2 {
			t.Error(h.Live())
		}
		hears(t, h, end("f", "x", 2, "b"))
		is(t, "Step", h.Step(), report("f", "e", 1, "a", api.Running), report("f", "y", 3, "c", api.Running))
		is(t, "Hello", h.Hello(), about(api.Hello, "f", "e", 1), about(api.Hello, "f", "y", 3))
		launched(t, h, api.Key{F: "f", T: "a"}, api.Key{F: "f", T: "b"}, api.Key{F: "f", T: "c"})
	}
}

func TestOtherMessages(t *testing.T) {
	h := started(t, "e")
	hears(t, h, launch("f", "e", 1, "a"))
	for kind := -1; kind < 20; kind++ {
		switch kind {
		case api.Start, api.Launch, api.End, api.Stop, api.Destroy:
			continue
		}
		hears(t, h, api.Message{Kind: kind, F: "f", E: "e", N: 1, T: "a", State: 2, Number: 1, Epoch: 1, Items: []api.Item{{T: "b"}}})
	}
	launched(t, h, api.Key{F: "f", T: "a"})
	if h.Live() != 1 {
		t.Error(h.Live())
	}
}

func TestMemory(t *testing.T) {
	h := started(t, "e", "x")
	m := launch("f", "e", 1, "a")
	hears(t, h, m)
	m.Items[0].T = "q"
	l := h.Launched()
	l[0].T = "q"
	_ = append(l[:0], api.Key{F: "w"})
	h.Hello()[0].F = "q"
	launched(t, h, api.Key{F: "f", T: "a"})
	is(t, "Hello", h.Hello(), about(api.Hello, "f", "e", 1), about(api.Hello, "f", "x", 2))
	is(t, "Step", h.Step(), report("f", "e", 1, "a", api.Running))
	l = h.Launched()
	hears(t, h, launch("f", "e", 1, "b"))
	if len(l) != 1 || l[0].T != "a" {
		t.Error("a result was changed")
	}
}

func TestMany(t *testing.T) {
	h := hands.New()
	for n := range 20000 {
		hears(t, h, about(api.Start, "f", "e", n), about(api.Hello, "f", "e", n))
		hears(t, h, launch("f", "e", n, string(rune('a'+n))))
	}
	if got := len(h.Step()); got != 20000 || h.Live() != 20000 || len(h.Launched()) != 20000 {
		t.Error(got, h.Live())
	}
}
