package world_test

import (
	"fmt"
	"slices"
	"testing"

	"hostler/api"
	"hostler/message"
	"hostler/world"
)

var config = api.Config{Room: 10 + 10i, Wait: 5, Window: 7, Keep: 8, First: 2, Most: 8, Quota: 4000}

func newWorld(t *testing.T) *world.World {
	t.Helper()
	w, err := world.New(config)
	if err != api.OK || w == nil {
		t.Fatalf("New: %d", err)
	}
	return w
}

func want(t *testing.T, what string, got, err api.Errno) {
	t.Helper()
	if got != err {
		t.Errorf("%s: error %d, not %d", what, got, err)
	}
}

func same(a, b world.Said) bool {
	return a.Epoch == b.Epoch && a.Now == b.Now && message.Same(a.Message, b.Message)
}

// says checks everything that was said.
func says(t *testing.T, w *world.World, l ...world.Said) {
	t.Helper()
	if got := w.Said(); !slices.EqualFunc(got, l, same) {
		t.Errorf("said was %v, not %v", got, l)
	}
}

var (
	welcome = api.Message{Kind: api.Welcome}
	ask     = api.Message{Kind: api.Ask, F: "f"}
	hello   = api.Message{Kind: api.Hello, F: "f", E: "e", N: 1}
	started = api.Message{Kind: api.Start, F: "f", E: "e", N: 1}
)

func tasks(names ...string) api.Message {
	m := api.Message{Kind: api.Run, F: "f", E: "e"}
	for _, t := range names {
		m.Items = append(m.Items, api.Item{T: t, Need: 1})
	}
	return m
}

func launch(t string) api.Message {
	return api.Message{Kind: api.Launch, F: "f", E: "e", N: 1, Items: []api.Item{{T: t, Need: 1}}}
}

func register(epoch int) api.Message {
	return api.Message{Kind: api.Register, Epoch: epoch}
}

func TestNew(t *testing.T) {
	w := newWorld(t)
	says(t, w)
	if w.Down() || w.Agent().Epoch() != 1 || w.Agent().Now() != 0 {
		t.Error("something has happened")
	}
	if d := w.Disk(); d.Room() != config.Quota-1 || !slices.Equal(d.List(""), []string{"epoch"}) {
		t.Errorf("%q", d.List(""))
	}
	for _, change := range []func(c *api.Config){
		func(c *api.Config) { c.Quota = api.MinQuota - 1 },
		func(c *api.Config) { c.Quota = api.MaxQuota + 1 },
		func(c *api.Config) { c.Wait = 0 },
		func(c *api.Config) { c.Room = -1 },
	} {
		c := config
		change(&c)
		if w, err := world.New(c); err != api.ErrArg || w != nil {
			t.Errorf("%v: %d", c, err)
		}
	}
}

func TestWhatIsSaidIsKept(t *testing.T) {
	w := newWorld(t)
	want(t, "Tick", w.Tick(0), api.OK)
	want(t, "Tick", w.Tick(0), api.OK)
	want(t, "Run", w.Tell(tasks("a")), api.ErrState)
	want(t, "Welcome", w.Tell(welcome), api.OK)
	want(t, "Run", w.Tell(tasks("a", "b")), api.OK)
	want(t, "Tick", w.Tick(0), api.OK)
	want(t, "Hello", w.Tell(hello), api.OK)
	want(t, "Register", w.Tell(register(1)), api.ErrArg)
	want(t, "nothing", w.Tell(api.Message{}), api.ErrArg)
	want(t, "Crash", w.Crash(0, -1), api.OK)
	want(t, "Tick", w.Tick(0), api.OK)
	says(t, w,
		world.Said{Message: register(1), Epoch: 1, Now: 1},
		world.Said{Message: register(1), Epoch: 1, Now: 2},
		world.Said{Message: started, Epoch: 1, Now: 2},
		world.Said{Message: launch("a"), Epoch: 1, Now: 3},
		world.Said{Message: launch("b"), Epoch: 1, Now: 3},
		world.Said{Message: register(2), Epoch: 2, Now: 1})
}

func TestRaw(t *testing.T) {
	w := newWorld(t)
	want(t, "Welcome", w.Raw([]byte{6}), api.OK)
	if !w.Agent().Registered() {
		t.Error("not registered")
	}
	b, _ := message.Pack(tasks("a"))
	want(t, "Run", w.Raw(b), api.OK)
	want(t, "Run again", w.Raw(b), api.ErrThere)
	for _, x := range [][]byte{nil, {0}, {6, 6}, b[:len(b)-1]} {
		want(t, "no message", w.Raw(x), api.ErrForm)
	}
	b, _ = message.Pack(register(1))
	want(t, "a message of the agent", w.Raw(b), api.ErrArg)
	says(t, w, world.Said{Message: started, Epoch: 1})
	w.Fuse(0)
	want(t, "a message of the agent", w.Raw(b), api.ErrArg)
	b, _ = message.Pack(tasks("b"))
	want(t, "Run", w.Raw(b), api.ErrCrash)
	want(t, "no message", w.Raw(nil), api.ErrForm)
}

func TestFuse(t *testing.T) {
	w := newWorld(t)
	want(t, "Welcome", w.Tell(welcome), api.OK)
	w.Fuse(6)
	want(t, "Run", w.Tell(tasks("a")), api.OK)
	want(t, "Run", w.Tell(tasks("b")), api.ErrCrash)
	if w.Down() || !w.Agent().Dead() || !w.Disk().Dead() {
		t.Error("a crash of the disk is not that of the world")
	}
	want(t, "Tell", w.Tell(ask), api.ErrCrash)
	want(t, "Tick", w.Tick(0), api.ErrCrash)
	want(t, "Crash", w.Crash(0, -1), api.OK)
	if w.Agent().Dead() || w.Disk().Dead() || w.Agent().Epoch() != 2 || len(w.Agent().Rows()) != 1 {
		t.Error("it is not there again")
	}
	says(t, w, world.Said{Message: started, Epoch: 1})
}

func TestWhatIsSaidBesideACrash(t *testing.T) {
	w := newWorld(t)
	w.Tell(welcome)
	w.Tell(tasks("a"))
	for range 4 {
		w.Tick(0)
	}
	w.Fuse(0)
	want(t, "Tick", w.Tick(0), api.ErrCrash)
	says(t, w, world.Said{Message: started, Epoch: 1},
		world.Said{Message: api.Message{Kind: api.Destroy, F: "f", E: "e", N: 1}, Epoch: 1, Now: 5})
	w = newWorld(t)
	w.Tell(welcome)
	big := tasks("a")
	big.Items[0].Need = 11
	w.Fuse(3)
	want(t, "Run", w.Tell(big), api.ErrCrash)
	says(t, w)
}

func TestCrashKeeps(t *testing.T) {
	for keep, size := range map[int]int{-1: 0, 0: 0, 3: 3, 64: 64, 99: 64} {
		w := newWorld(t)
		w.Tell(welcome)
		w.Fuse(1)
		want(t, "Run", w.Tell(tasks("a")), api.ErrCrash)
		if b, _ := w.Disk().Read("box/f/e/01~"); len(b) != 64 {
			t.Errorf("%d bytes are not synced", len(b))
		}
		want(t, "Crash", w.Crash(keep, 0), api.ErrCrash)
		b, there := w.Disk().Read("box/f/e/01~")
		if there != (size > 0) || len(b) != size {
			t.Errorf("%d: %d bytes are kept, %v", keep, len(b), there)
		}
	}
}

func TestDown(t *testing.T) {
	w := newWorld(t)
	w.Tell(welcome)
	w.Tell(tasks("a"))
	a := w.Agent()
	for fuse := range 3 {
		want(t, "Crash", w.Crash(0, fuse), api.ErrCrash)
		if !w.Down() || w.Agent() != a || !w.Disk().Dead() {
			t.Error("the world is not down")
		}
		want(t, "Tell", w.Tell(ask), api.ErrCrash)
		want(t, "Tell of nothing", w.Tell(api.Message{}), api.ErrCrash)
		want(t, "Raw", w.Raw(nil), api.ErrCrash)
		want(t, "Tick", w.Tick(0), api.ErrCrash)
	}
	says(t, w, world.Said{Message: started, Epoch: 1})
	want(t, "Crash, with an act for what the last one has left", w.Crash(0, 4), api.OK)
	if w.Down() || w.Agent() == a || w.Agent().Epoch() != 2 || w.Agent().Registered() {
		t.Error("the world is down")
	}
	want(t, "Welcome", w.Tell(welcome), api.OK)
	want(t, "Run, with a fuse from the opening on", w.Tell(tasks("b")), api.ErrCrash)
	want(t, "Crash", w.Crash(0, -7), api.OK)
	w.Tell(welcome)
	want(t, "Run, without a fuse", w.Tell(tasks("b")), api.OK)
}

func TestDownByAnotherError(t *testing.T) {
	c := config
	c.Quota = api.MinQuota
	w, err := world.New(c)
	if err != api.OK {
		t.Fatal(err)
	}
	want(t, "Crash", w.Crash(0, 0), api.ErrCrash)
	w.Fuse(9)
	want(t, "Tell", w.Tell(welcome), api.ErrCrash)
	want(t, "Crash", w.Crash(0, -1), api.OK)
	want(t, "Tell", w.Tell(welcome), api.OK)
	want(t, "Run", w.Tell(tasks("a")), api.ErrFull)
}

func TestMemory(t *testing.T) {
	w := newWorld(t)
	w.Tell(welcome)
	w.Tell(tasks("a"))
	w.Tell(hello)
	l := w.Said()
	before := fmt.Sprint(l)
	l[1].Message.Items[0].T = "q"
	l[0].Epoch = 9
	_ = append(l[:1], world.Said{})
	if got := fmt.Sprint(w.Said()); got != before {
		t.Errorf("%s, not %s", got, before)
	}
	l = w.Said()
	w.Crash(0, -1)
	w.Tick(0)
	if got := fmt.Sprint(l); got != before {
		t.Error("a result was changed")
	}
	d := w.Disk()
	d.Remove("epoch")
	d.Fuse(0)
	d.Sync("admit/01")
	if w.Disk().Dead() || w.Disk().List("")[1] != "box/f/e/01" || w.Disk().List("")[2] != "epoch" {
		t.Error("the disk is not a clone")
	}
	m := tasks("b")
	w.Tell(welcome)
	w.Tell(m)
	m.Items[0].T = "q"
	if w.Agent().State(api.Key{F: "f", T: "b"}) != api.Staging {
		t.Error("an argument was kept")
	}
}
