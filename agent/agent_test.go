package agent_test

import (
	"fmt"
	"math"
	"slices"
	"testing"

	"hostler/agent"
	"hostler/api"
	"hostler/bin"
	"hostler/disk"
	"hostler/life"
	"hostler/path"
	"hostler/run"
)

// config is what most of the tests' agents have.
var config = api.Config{Room: 10 + 10i, Wait: 5, Window: 7, Keep: 8, First: 2, Most: 8, Quota: 4000}

var kinds = []string{"?", "Run", "Kill", "Shut", "Ack", "Ask", "Welcome", "Hello", "Report", "Gone", "Register", "Status", "Answer", "Start", "Launch", "End", "Stop", "Destroy"}

// show tells all of a message.
func show(m api.Message) string {
	s := kinds[m.Kind]
	for _, x := range []string{m.F, m.E, m.T} {
		if x != "" {
			s += " " + x
		}
	}
	if m.N != 0 {
		s += fmt.Sprint(" n", m.N)
	}
	if m.Number != 0 {
		s += fmt.Sprint(" #", m.Number)
	}
	if m.Epoch != 0 {
		s += fmt.Sprint(" @", m.Epoch)
	}
	if m.State != 0 {
		s += " " + life.Name(m.State)
	}
	for _, it := range m.Items {
		s += fmt.Sprintf(" %s%v", it.T, it.Need)
	}
	return s
}

// rig is an agent on its disk.
type rig struct {
	*testing.T
	c api.Config
	d *disk.Disk
	a *agent.Agent
}

// open opens an agent on the disk.
func (r *rig) open() {
	r.Helper()
	a, err := agent.Open(r.c, r.d)
	if err != api.OK || a == nil {
		r.Fatalf("Open: %d", err)
	}
	r.a = a
}

// crash crashes the disk, and opens it again.
func (r *rig) crash(keep int) {
	r.Helper()
	r.d.Crash(keep)
	r.open()
}

// start returns an agent on a new disk, registered.
func start(t *testing.T, c api.Config) *rig {
	t.Helper()
	r := &rig{T: t, c: c, d: disk.New(c.Quota)}
	r.open()
	r.says(welcome())
	return r
}

func (r *rig) same(what string, got []api.Message, want []string) {
	r.Helper()
	var l []string
	for _, m := range got {
		l = append(l, show(m))
	}
	if !slices.Equal(l, want) {
		r.Errorf("%s: it says %q, not %q", what, l, want)
	}
}

// says does m, which has no error, and checks what is said.
func (r *rig) says(m api.Message, want ...string) {
	r.Helper()
	got, err := r.a.Do(m)
	if err != api.OK {
		r.Errorf("%s: error %d", show(m), err)
	}
	r.same(show(m), got, want)
}

// fails does m, which has this error; nothing may have changed then.
func (r *rig) fails(m api.Message, err api.Errno) {
	r.Helper()
	before, files := r.text(), r.files()
	got, e := r.a.Do(m)
	if e != err || len(got) != 0 {
		r.Errorf("%v: error %d, not %d; %d messages", m, e, err, len(got))
	}
	if err != api.ErrCrash && (r.text() != before || r.files() != files) {
		r.Errorf("%v: an error has changed something", m)
	}
}

// ticks lets a tick pass, and checks what is said.
func (r *rig) ticks(draw int, want ...string) {
	r.Helper()
	got, err := r.a.Tick(draw)
	if err != api.OK {
		r.Errorf("Tick: error %d", err)
	}
	r.same(fmt.Sprint("tick ", r.a.Now()), got, want)
}

// silent lets n ticks pass, in which nothing is said.
func (r *rig) silent(n int) {
	r.Helper()
	for range n {
		r.ticks(0)
	}
}

// text tells everything that an agent tells of itself.
func (r *rig) text() string {
	a := r.a
	s := fmt.Sprint(a.Now(), a.Epoch(), a.Registered(), a.Used(), a.Boxes(), a.Dead(), a.Rows())
	for _, row := range a.Rows() {
		n, phase := a.Phase(row.Key.F, row.E)
		x := a.Stream(row.Key)
		s += fmt.Sprint("; ", row.Key, row.Run, n, phase, a.State(row.Key), x.Updates(), x.Acked(), x.Said())
	}
	return s
}

// files tells everything that is on the disk.
func (r *rig) files() string {
	s := ""
	for _, p := range r.d.List("") {
		b, _ := r.d.Read(p)
		s += fmt.Sprintf("%s %x;", p, b)
	}
	return s
}

func (r *rig) phase(e string, n, phase int) {
	r.Helper()
	if gn, gp := r.a.Phase("f", e); gn != n || gp != phase {
		r.Errorf("the executor %s has the run %d in phase %d, not %d in %d", e, gn, gp, n, phase)
	}
}

// stream checks the updates of the task f t, and how many are acknowledged.
func (r *rig) stream(t string, acked int, states ...int) {
	r.Helper()
	var want []api.Update
	for i, s := range states {
		want = append(want, api.Update{Number: i + 1, State: s})
	}
	s := r.a.Stream(key(t))
	if s == nil || !slices.Equal(s.Updates(), want) || s.Acked() != acked {
		r.Errorf("the stream of %s is %v, not %v, %d", t, s, want, acked)
	}
}

func (r *rig) boxes(want ...bin.Box) {
	r.Helper()
	if got := r.a.Boxes(); !slices.Equal(got, want) {
		r.Errorf("the bin has %v, not %v", got, want)
	}
}

func key(t string) api.Key      { return api.Key{F: "f", T: t} }
func welcome() api.Message      { return api.Message{Kind: api.Welcome} }
func kill(t string) api.Message { return api.Message{Kind: api.Kill, F: "f", T: t} }
func shut(f string) api.Message { return api.Message{Kind: api.Shut, F: f} }
func ack(t string, number, epoch int) api.Message {
	return api.Message{Kind: api.Ack, F: "f", T: t, Number: number, Epoch: epoch}
}
func hello(e string, n int) api.Message { return api.Message{Kind: api.Hello, F: "f", E: e, N: n} }
func gone(e string, n int) api.Message  { return api.Message{Kind: api.Gone, F: "f", E: e, N: n} }
func report(e string, n int, t string, state int) api.Message {
	return api.Message{Kind: api.Report, F: "f", E: e, N: n, T: t, State: state}
}

// tasks asks for tasks of the framework f by the executor e, each of one processor.
func tasks(e string, names ...string) api.Message {
	m := api.Message{Kind: api.Run, F: "f", E: e}
	for _, t := range names {
		m.Items = append(m.Items, api.Item{T: t, Need: 1})
	}
	return m
}

func ask(names ...string) api.Message {
	m := api.Message{Kind: api.Ask, F: "f"}
	for _, t := range names {
		m.Items = append(m.Items, api.Item{T: t})
	}
	return m
}

// live returns an agent whose run 1 of the executor e is Live and runs these tasks.
func live(t *testing.T, names ...string) *rig {
	t.Helper()
	r := start(t, config)
	r.says(tasks("e", names...), "Start f e n1")
	var l []string
	for _, x := range names {
		l = append(l, "Launch f e n1 "+x+"(1+0i)")
	}
	r.says(hello("e", 1), l...)
	r.phase("e", 1, run.Live)
	return r
}

// P19.1

func TestCheck(t *testing.T) {
	for i, r := range []struct {
		change func(c *api.Config)
		right  bool
	}{
		{func(c *api.Config) {}, true},
		{func(c *api.Config) { c.Room = 0 }, true},
		{func(c *api.Config) { c.Room = api.MaxRoom + api.MaxRoom*1i }, true},
		{func(c *api.Config) { c.Room = api.MaxRoom + 1 }, false},
		{func(c *api.Config) { c.Room = -1 }, false},
		{func(c *api.Config) { c.Room = 0.5i }, false},
		{func(c *api.Config) { c.Room = complex(math.NaN(), 0) }, false},
		{func(c *api.Config) { c.Wait = 0 }, false},
		{func(c *api.Config) { c.Wait = 1 }, true},
		{func(c *api.Config) { c.Wait = api.MaxTicks }, true},
		{func(c *api.Config) { c.Wait = api.MaxTicks + 1 }, false},
		{func(c *api.Config) { c.Window = 0 }, false},
		{func(c *api.Config) { c.Window = api.MaxTicks }, true},
		{func(c *api.Config) { c.Window = api.MaxTicks + 1 }, false},
		{func(c *api.Config) { c.Keep = 0 }, false},
		{func(c *api.Config) { c.Keep = api.MaxTicks }, true},
		{func(c *api.Config) { c.Keep = api.MaxTicks + 1 }, false},
		{func(c *api.Config) { c.First = -1 }, false},
		{func(c *api.Config) { c.First = 0 }, false},
		{func(c *api.Config) { c.First = api.MaxTicks }, true},
		{func(c *api.Config) { c.First = api.MaxTicks + 1 }, false},
		{func(c *api.Config) { c.Most = 0 }, false},
		{func(c *api.Config) { c.Most = 1 }, true},
		{func(c *api.Config) { c.Most = api.MaxTicks + 1 }, false},
		{func(c *api.Config) { c.Quota = api.MinQuota - 1 }, false},
		{func(c *api.Config) { c.Quota = api.MinQuota }, true},
		{func(c *api.Config) { c.Quota = api.MaxQuota }, true},
		{func(c *api.Config) { c.Quota = api.MaxQuota + 1 }, false},
		{func(c *api.Config) { *c = api.Config{} }, false},
	} {
		c := config
		r.change(&c)
		want := api.ErrArg
		if r.right {
			want = api.OK
		}
		if err := agent.Check(c); err != want {
			t.Errorf("%d: Check %d", i, err)
		}
		d := disk.New(4000)
		d.Append("epoch", []byte("\x80"))
		if r.right {
			want = api.ErrCorrupt
		}
		if a, err := agent.Open(c, d); err != want || a != nil {
			t.Errorf("%d: Open %d", i, err)
		}
	}
}

func TestOpenOfANewDisk(t *testing.T) {
	r := &rig{T: t, c: config, d: disk.New(4000)}
	r.open()
	a := r.a
	if a.Epoch() != 1 || len(a.Rows()) != 0 || a.Now() != 0 || a.Registered() || a.Used() != 0 || len(a.Boxes()) != 0 || a.Dead() {
		t.Error(r.text())
	}
	if a.State(key("a")) != 0 || a.Stream(key("a")) != nil {
		t.Error("a task is there")
	}
	r.phase("e", 0, 0)
}

func TestErrorsOfOpen(t *testing.T) {
	full := disk.New(64)
	full.Append("x", make([]byte, 64))
	dead := disk.New(64)
	dead.Fuse(2)
	bad := disk.New(64)
	bad.Append("admit/01", nil)
	for err, d := range map[api.Errno]*disk.Disk{api.ErrFull: full, api.ErrCrash: dead, api.ErrCorrupt: bad} {
		if a, e := agent.Open(config, d); e != err || a != nil {
			t.Errorf("error %d, not %d", e, err)
		}
	}
}

func TestOpenFindsEverythingAgain(t *testing.T) {
	r := live(t, "a", "b")
	r.says(tasks("x", "c"), "Start f x n1")
	r.says(tasks("y", "d"), "Start f y n1")
	r.says(report("e", 1, "a", api.Running), "Status f a #1 @1 running")
	r.says(ack("a", 1, 1))
	r.says(report("e", 1, "b", api.Finished), "Status f b #1 @1 finished")
	r.says(gone("x", 1), "Status f c #1 @1 lost")
	r.says(tasks("x", "g"), "Start f x n2")
	r.says(gone("x", 2), "Status f g #1 @1 lost")
	r.silent(1)
	rows := fmt.Sprint(r.a.Rows())
	r.crash(0)
	if fmt.Sprint(r.a.Rows()) != rows || r.a.Epoch() != 2 || r.a.Now() != 0 || r.a.Registered() || r.a.Used() != 2 {
		t.Error(r.text())
	}
	r.stream("a", 1, api.Running)
	r.stream("b", 0, api.Finished)
	r.stream("c", 0, api.Lost)
	r.stream("d", 0)
	r.phase("e", 1, run.Waiting)
	r.phase("x", 0, 0)
	r.phase("y", 1, run.Waiting)
	r.boxes(bin.Box{F: "f", E: "x", N: 1}, bin.Box{F: "f", E: "x", N: 2})
	for _, x := range []string{"a", "b", "c", "d", "g"} {
		if r.a.Stream(key(x)).Said() {
			t.Errorf("%s was said in this life", x)
		}
	}
	r.says(welcome(), "Status f b #1 @2 finished", "Status f c #1 @2 lost", "Status f g #1 @2 lost")
	r.says(hello("e", 1))
	r.phase("e", 1, run.Live)
	r.says(hello("y", 1), "Launch f y n1 d(1+0i)")
}

func TestTheWindow(t *testing.T) {
	r := live(t, "a")
	r.crash(0)
	r.says(welcome())
	r.silent(6)
	r.phase("e", 1, run.Waiting)
	r.ticks(0, "Destroy f e n1", "Status f a #1 @2 lost")
	r.phase("e", 0, 0)
	r.boxes(bin.Box{F: "f", E: "e", N: 1, Since: 7})
	r.stream("a", 0, api.Lost)
	r.fails(hello("e", 1), api.ErrNone)
}

func TestAHelloInTheWindow(t *testing.T) {
	r := live(t, "a")
	r.crash(0)
	r.says(welcome())
	r.silent(6)
	r.says(hello("e", 1), "Launch f e n1 a(1+0i)")
	r.silent(20)
	r.phase("e", 1, run.Live)
}

func TestOpenRemovesStrayBoxes(t *testing.T) {
	r := live(t, "a")
	r.says(tasks("x", "b"), "Start f x n1")
	r.says(gone("x", 1), "Status f b #1 @1 lost")
	stray := []string{"box/", "box/a", "box/f/e/02", "box/f/y/01", "box/g/e/01", "box/f/e/01/x", "box/z"}
	for _, p := range stray {
		r.d.Append(p, []byte("1"))
	}
	r.d.Append("boxes", []byte("1"))
	slices.Sort(stray)
	for n := range stray {
		x := r.d.Clone()
		x.Fuse(3 + n)
		if a, err := agent.Open(config, x); err != api.ErrCrash || a != nil {
			t.Errorf("fuse %d: %d", n, err)
		}
		for i, p := range stray {
			if _, there := x.Read(p); there != (i >= n) {
				t.Errorf("fuse %d: %q is there: %v", n, p, there)
			}
		}
	}
	r.crash(9)
	if l := r.d.List("box"); !slices.Equal(l, []string{"box/f/e/01", "box/f/x/01", "boxes"}) {
		t.Errorf("%q are there", l)
	}
	r.boxes(bin.Box{F: "f", E: "x", N: 1})
}

func TestOpenSettles(t *testing.T) {
	r := live(t, "a", "b", "c")
	r.says(report("e", 1, "b", api.Running), "Status f b #1 @1 running")
	r.says(report("e", 1, "c", api.Finished), "Status f c #1 @1 finished")
	// Gone is recorded in three acts; the updates come behind it.
	r.d.Fuse(3)
	got, err := r.a.Do(gone("e", 1))
	if err != api.ErrCrash || len(got) != 0 || !r.a.Dead() {
		t.Errorf("error %d", err)
	}
	r.d.Crash(0)
	for n, want := range []api.Errno{api.ErrCrash, api.ErrCrash, api.ErrCrash, api.ErrCrash, api.OK} {
		d := r.d.Clone()
		d.Fuse(3 + n)
		if a, err := agent.Open(config, d); err != want || (a != nil) != (want == api.OK) {
			t.Errorf("fuse %d: %d", n, err)
		}
	}
	r.open()
	r.stream("a", 0, api.Lost)
	r.stream("b", 0, api.Running, api.Lost)
	r.stream("c", 0, api.Finished)
	r.phase("e", 0, 0)
	r.says(welcome(), "Status f a #1 @2 lost", "Status f b #1 @2 running", "Status f c #1 @2 finished")
}

func TestOpenSettlesWhatWasRefused(t *testing.T) {
	r := start(t, config)
	m := tasks("e", "a", "b")
	m.Items[1].Need = 11
	r.d.Fuse(3)
	if got, err := r.a.Do(m); err != api.ErrCrash || len(got) != 0 {
		t.Error(got, err)
	}
	r.crash(0)
	r.stream("a", 0, api.Refused)
	r.stream("b", 0, api.Refused)
	if r.a.Used() != 0 {
		t.Error(r.a.Used())
	}
	r.phase("e", 0, 0)
}

func TestOpenIgnoresAFullDisk(t *testing.T) {
	r := live(t, "a", "b")
	r.d.Fuse(3)
	r.a.Do(gone("e", 1))
	r.d.Crash(0)
	r.d.Append("x", make([]byte, r.d.Room()-api.Spare-5))
	r.open()
	r.stream("a", 0, api.Lost)
	r.stream("b", 0)
	r.says(welcome(), "Status f a #1 @2 lost")
	r.d.Remove("x")
	r.ticks(0, "Status f b #1 @2 lost")
	r.stream("b", 0, api.Lost)
}

// P19.2 and P19.3

func TestErrorsOfDoInTheirOrder(t *testing.T) {
	r := start(t, config)
	for _, m := range []api.Message{{}, {Kind: -1}, {Kind: 18}, {Kind: api.Kill, F: "f"}, {Kind: api.Welcome, N: 1}, {Kind: api.Run, F: "f", E: "e"}, {Kind: api.Hello, F: "F", E: "e", N: 1},
		{Kind: api.Register}, {Kind: api.Register, Epoch: 1}, {Kind: api.Status, F: "f", T: "a", Number: 1, Epoch: 1, State: 2}, {Kind: api.Answer, F: "f", T: "a", State: 2},
		{Kind: api.Start, F: "f", E: "e", N: 1}, {Kind: api.Launch, F: "f", E: "e", N: 1, Items: []api.Item{{T: "a", Need: 1}}}, {Kind: api.End, F: "f", E: "e", N: 1, T: "a"},
		{Kind: api.Stop, F: "f", E: "e", N: 1}, {Kind: api.Destroy, F: "f", E: "e", N: 1}} {
		r.fails(m, api.ErrArg)
	}
	r.d.Fuse(0)
	r.fails(tasks("e", "a"), api.ErrCrash)
	if !r.a.Dead() {
		t.Error("not dead")
	}
	for _, m := range []api.Message{{}, {Kind: api.Register}, welcome(), kill("z"), hello("e", 1), ask()} {
		r.fails(m, api.ErrCrash)
	}
	now := r.a.Now()
	if got, err := r.a.Tick(0); err != api.ErrCrash || len(got) != 0 || r.a.Now() != now {
		t.Error("a dead agent ticks")
	}
}

func TestBeforeTheWelcome(t *testing.T) {
	r := &rig{T: t, c: config, d: disk.New(4000)}
	r.open()
	for _, m := range []api.Message{tasks("e", "a"), kill("a"), shut("f"), ack("a", 1, 1), ask(), ask("a")} {
		r.fails(m, api.ErrState)
	}
	r.fails(api.Message{Kind: api.Kill, F: "f"}, api.ErrArg)
	r.fails(hello("e", 1), api.ErrNone)
	r.fails(report("e", 1, "a", api.Running), api.ErrNone)
	r.fails(gone("e", 1), api.ErrNone)
	r.ticks(0, "Register @1")
	r.ticks(0, "Register @1")
	r.says(welcome())
	if !r.a.Registered() {
		t.Error("not registered")
	}
	r.silent(1)
	r.says(welcome())
	r.silent(1)
}

func TestExecutorsBeforeTheWelcome(t *testing.T) {
	r := live(t, "a", "b")
	r.crash(0)
	r.says(hello("e", 1), "Launch f e n1 a(1+0i)", "Launch f e n1 b(1+0i)")
	r.says(report("e", 1, "a", api.Running))
	r.ticks(0, "Register @2")
	r.says(gone("e", 1))
	r.ticks(0, "Register @2")
	r.says(welcome(), "Status f a #1 @2 running", "Status f b #1 @2 lost")
}

func TestSpeakingIsByRows(t *testing.T) {
	r := start(t, config)
	r.says(tasks("y", "d", "b"), "Start f y n1")
	r.says(tasks("x", "c", "a"), "Start f x n1")
	r.crash(0)
	r.says(gone("x", 1))
	r.says(gone("y", 1))
	r.says(welcome(), "Status f d #1 @2 lost", "Status f b #1 @2 lost", "Status f c #1 @2 lost", "Status f a #1 @2 lost")
}

func TestOneUpdateAtATime(t *testing.T) {
	r := live(t, "a", "b")
	r.says(report("e", 1, "a", api.Running), "Status f a #1 @1 running")
	r.says(report("e", 1, "a", api.Finished))
	r.says(ack("a", 1, 1), "Status f a #2 @1 finished")
	r.says(ack("a", 2, 1))
	r.stream("a", 2, api.Running, api.Finished)
	r.silent(30)
}

func TestRepetitions(t *testing.T) {
	r := live(t, "a", "b")
	r.says(report("e", 1, "b", api.Running), "Status f b #1 @1 running") // due at 2
	r.silent(1)
	r.says(report("e", 1, "a", api.Running), "Status f a #1 @1 running") // due at 3
	r.ticks(0, "Status f b #1 @1 running")                               // 2: after 4, due at 6
	r.ticks(1, "Status f a #1 @1 running")                               // 3: after 4, less 1, due at 6
	r.silent(2)
	r.ticks(0, "Status f a #1 @1 running", "Status f b #1 @1 running") // 6: after 8, due at 14
	r.says(ack("b", 1, 1))
	r.silent(7)
	r.ticks(3, "Status f a #1 @1 running") // 14: after 8, the most, less 3, due at 19
	r.silent(4)
	r.ticks(0, "Status f a #1 @1 running")
	r.says(report("e", 1, "b", api.Killed), "Status f b #2 @1 killed") // 19, due at 21
	r.silent(1)
	r.ticks(0, "Status f b #2 @1 killed")
}

func TestSpeakingInATick(t *testing.T) {
	// What a tick says for the first time has the draw; a Do has none.
	c := config
	c.First = 4
	r := start(t, c)
	r.says(tasks("e", "a"), "Start f e n1")
	r.silent(4)
	r.ticks(2, "Destroy f e n1", "Status f a #1 @1 lost") // 5: after 4, less 2, due at 7
	r.silent(1)
	r.ticks(0, "Status f a #1 @1 lost")
	r = start(t, c)
	r.says(tasks("e", "a"), "Start f e n1")
	r.silent(1)
	r.says(gone("e", 1), "Status f a #1 @1 lost") // 1, due at 5
	for range 3 {
		r.ticks(99)
	}
	r.ticks(99, "Status f a #1 @1 lost")
}

func TestTheTickHasABound(t *testing.T) {
	r := start(t, config)
	for n := range api.MaxTicks + 3 {
		if _, err := r.a.Tick(0); err != api.OK || r.a.Now() != min(n+1, api.MaxTicks) {
			t.Fatal(n, err, r.a.Now())
		}
	}
}

func TestSettlingBehindAFullDisk(t *testing.T) {
	r := live(t, "a", "b")
	r.d.Remove("box/f/e/01") // else it would make room
	r.d.Append("x", make([]byte, r.d.Room()-api.Spare-5))
	r.says(gone("e", 1), "Status f a #1 @1 lost")
	r.stream("b", 0)
	r.phase("e", 0, 0)
	r.ticks(0)
	r.says(ask("b"), "Answer f b staging")
	r.says(kill("b"))
	r.d.Cut("x", 0)
	r.says(ask("b"), "Answer f b staging", "Status f b #1 @1 lost")
	r.stream("b", 0, api.Lost)
}

func TestACrashInSettling(t *testing.T) {
	for n := range 4 {
		r := live(t, "a", "b")
		r.says(tasks("x", "c"), "Start f x n1")
		r.silent(4)
		r.d.Fuse(3 + n)
		got, err := r.a.Tick(0) // the run of x is late
		if n < 2 {
			r.same("the tick", got, []string{"Destroy f x n1"})
			if err != api.ErrCrash || !r.a.Dead() {
				t.Error(err)
			}
		} else {
			r.same("the tick", got, []string{"Destroy f x n1", "Status f c #1 @1 lost"})
			if err != api.OK || r.a.Dead() {
				t.Error(err)
			}
		}
	}
}

func TestWhatIsSaidBesideACrash(t *testing.T) {
	// The disk is full, so that b is not settled; then it is not, and it crashes.
	r := live(t, "a", "b")
	r.d.Append("x", make([]byte, r.d.Room()-api.Spare-5))
	r.says(gone("e", 1), "Status f a #1 @1 lost")
	r.d.Remove("x")
	r.d.Fuse(0)
	got, err := r.a.Do(ask("a", "b"))
	r.same("Ask", got, []string{"Answer f a lost", "Answer f b staging"})
	if err != api.ErrCrash {
		t.Error(err)
	}
}

func TestACrashInATick(t *testing.T) {
	r := start(t, config)
	r.says(tasks("e", "a"), "Start f e n1")
	r.says(tasks("x", "b"), "Start f x n1")
	r.crash(0)
	for range 6 {
		r.ticks(0, "Register @2")
	}
	r.d.Fuse(3)
	got, err := r.a.Tick(0)
	r.same("the tick", got, []string{"Register @2", "Destroy f e n1", "Destroy f x n1"})
	if err != api.ErrCrash || !r.a.Dead() {
		t.Error(err)
	}
	r.phase("e", 0, 0)
	r.phase("x", 1, run.Waiting)
}

func TestACrashAtTheFirstOfSomeLateRuns(t *testing.T) {
	r := start(t, config)
	for _, e := range []string{"e", "x", "y"} {
		r.says(tasks(e, "of"+e), "Start f "+e+" n1")
	}
	r.silent(4)
	r.d.Fuse(1)
	got, err := r.a.Tick(0)
	r.same("the tick", got, []string{"Destroy f e n1"})
	if err != api.ErrCrash || !r.a.Dead() {
		t.Error(err)
	}
}

// P19.4: Run

func TestRunOfANewRun(t *testing.T) {
	r := start(t, config)
	r.says(tasks("e", "a", "b"), "Start f e n1")
	r.phase("e", 1, run.Starting)
	r.stream("a", 0)
	r.stream("b", 0)
	if r.a.Used() != 2 || r.a.State(key("a")) != api.Staging {
		t.Error(r.a.Used())
	}
	if got := fmt.Sprint(r.a.Rows()); got != "[{{f a} e 1 (1+0i)} {{f b} e 1 (1+0i)}]" {
		t.Error(got)
	}
	if b, there := r.d.Read(path.Box("f", "e", 1)); !there || len(b) != 64 {
		t.Error("there is no sandbox")
	}
	r.boxes()
	r.silent(4)
	r.ticks(0, "Destroy f e n1", "Status f a #1 @1 lost", "Status f b #1 @1 lost")
}

func TestRunIsOnce(t *testing.T) {
	r := live(t, "a")
	r.fails(tasks("e", "a"), api.ErrThere)
	r.fails(tasks("x", "a"), api.ErrThere)
	r.fails(tasks("x", "b", "a"), api.ErrThere)
	r.says(report("e", 1, "a", api.Finished), "Stop f e n1", "Status f a #1 @1 finished")
	r.fails(tasks("e", "a"), api.ErrThere)
	big := tasks("x", "c", "d")
	big.Items[0].Need = 10 + 11i
	r.says(big, "Status f c #1 @1 refused", "Status f d #1 @1 refused")
	r.fails(tasks("x", "c"), api.ErrThere)
	r.fails(tasks("x", "d"), api.ErrThere)
	other := tasks("e", "a")
	other.F = "g"
	r.says(other, "Start g e n1")
}

func TestRunUpToMaxAdmit(t *testing.T) {
	r := start(t, config)
	for n := range api.MaxAdmit {
		r.says(tasks("e", fmt.Sprint(n)), fmt.Sprint("Start f e n", n+1))
		r.says(gone("e", n+1), fmt.Sprint("Status f ", n, " #1 @1 lost"))
	}
	r.fails(tasks("e", "z"), api.ErrThere)
	r.fails(tasks("new", "z"), api.ErrThere)
}

func TestRunThatDoesNotFit(t *testing.T) {
	r := start(t, config)
	m := tasks("e", "a", "b")
	m.Items[0].Need, m.Items[1].Need = 6+1i, 4+9i
	r.says(m, "Start f e n1")
	if r.a.Used() != 10+10i {
		t.Error(r.a.Used())
	}
	for i, z := range []complex128{1, 1i, 1 + 1i} {
		m := tasks("x", fmt.Sprint("c", i))
		m.Items[0].Need = z
		r.says(m, fmt.Sprintf("Status f c%d #1 @1 refused", i))
		r.stream(fmt.Sprint("c", i), 0, api.Refused)
	}
	r.phase("x", 0, 0)
	if l := r.d.List("box/"); len(l) != 1 {
		t.Errorf("%q are there", l)
	}
	r.says(tasks("e", "d"), "Status f d #1 @1 refused")
	r.says(kill("a"), "Status f a #1 @1 killed")
	if r.a.Used() != 4+9i {
		t.Error(r.a.Used())
	}
	m = tasks("x", "e")
	m.Items[0].Need = 6 + 1i
	r.says(m, "Start f x n1")
	r.says(tasks("x", "g", "h"), "Status f g #1 @1 refused", "Status f h #1 @1 refused")
	if got := fmt.Sprint(r.a.Rows()[2]); got != "{{f c0} x 0 (1+0i)}" {
		t.Error(got)
	}
}

func TestRunOfAnEndingRun(t *testing.T) {
	r := live(t, "a")
	r.says(shut("f"), "Stop f e n1")
	r.says(tasks("e", "b"), "Status f b #1 @1 refused")
	r.phase("e", 1, run.Ending)
	r.says(tasks("x", "c"), "Start f x n1")
	r.says(gone("e", 1), "Status f a #1 @1 lost")
	r.says(tasks("e", "d"), "Start f e n2")
	r.phase("e", 2, run.Starting)
}

func TestRunOfARunThatIsThere(t *testing.T) {
	r := start(t, config)
	r.says(tasks("e", "a"), "Start f e n1")
	r.says(tasks("e", "b"))
	r.phase("e", 1, run.Starting)
	r.says(hello("e", 1), "Launch f e n1 a(1+0i)", "Launch f e n1 b(1+0i)")
	m := tasks("e", "c", "d")
	m.Items[1].Need = 2 + 3i
	r.says(m, "Launch f e n1 c(1+0i)", "Launch f e n1 d(2+3i)")
	r.crash(0)
	r.says(welcome())
	r.says(tasks("e", "g"))
	r.phase("e", 1, run.Waiting)
	r.says(hello("e", 1), "Launch f e n1 a(1+0i)", "Launch f e n1 b(1+0i)", "Launch f e n1 c(1+0i)", "Launch f e n1 d(2+3i)", "Launch f e n1 g(1+0i)")
	if l := r.d.List("box/"); len(l) != 1 {
		t.Errorf("%q are there", l)
	}
	for _, row := range r.a.Rows() {
		if row.Run != 1 {
			t.Error(row)
		}
	}
}

func TestRunWithoutRoomOnTheDisk(t *testing.T) {
	const entry = 10 // bytes of the admission of one task
	for _, left := range []int{0, api.Spare, api.Spare + 63, api.Spare + 64, api.Spare + 64 + entry - 1} {
		r := start(t, config)
		r.d.Append("x", make([]byte, r.d.Room()-left))
		r.fails(tasks("e", "a"), api.ErrFull)
		r.phase("e", 0, 0)
		if l := r.d.List("box/"); len(l) != 0 {
			t.Errorf("%q are there", l)
		}
		r.d.Cut("x", 0)
		r.says(tasks("e", "a"), "Start f e n1")
	}
	r := start(t, config)
	r.d.Append("x", make([]byte, r.d.Room()-api.Spare-64-entry))
	r.says(tasks("e", "a"), "Start f e n1")
	r.fails(tasks("e", "b"), api.ErrFull)
	big := tasks("x", "b")
	big.Items[0].Need = 11
	r.fails(big, api.ErrFull)
	r.phase("e", 1, run.Starting)
	r = live(t, "a")
	r.d.Append("x", make([]byte, r.d.Room()-api.Spare-entry+1))
	r.fails(tasks("e", "b"), api.ErrFull)
}

func TestACrashAtASandboxThatIsDroppedAgain(t *testing.T) {
	r := start(t, config)
	r.d.Append("x", make([]byte, r.d.Room()-api.Spare-64))
	r.d.Fuse(3)
	r.fails(tasks("e", "a"), api.ErrCrash)
	r.d.Remove("x")
	r.crash(0)
	if len(r.a.Rows()) != 0 || len(r.d.List("box/")) != 0 {
		t.Error(r.text())
	}
}

func TestACrashInRun(t *testing.T) {
	for n := range 7 {
		r := start(t, config)
		r.d.Fuse(n)
		got, err := r.a.Do(tasks("e", "a"))
		if n == 6 {
			r.same("Run", got, []string{"Start f e n1"})
		} else if err != api.ErrCrash || len(got) != 0 || !r.a.Dead() {
			t.Errorf("fuse %d: %d", n, err)
		}
		r.crash(0)
		if there := r.a.State(key("a")) != 0; there != (n == 6) || len(r.d.List("box/")) == 1 != there {
			t.Errorf("fuse %d: %s", n, r.text())
		}
	}
}

func TestTheArgumentOfRun(t *testing.T) {
	r := start(t, config)
	m := tasks("e", "a", "b")
	m.Items = append(m.Items, api.Item{T: "rest"})[:2]
	r.says(m, "Start f e n1")
	m.Items[0] = api.Item{T: "q", Need: 9}
	if m.Items[:3][2].T != "rest" {
		t.Error("memory beyond the length was written")
	}
	got, _ := r.a.Do(hello("e", 1))
	r.same("Hello", got, []string{"Launch f e n1 a(1+0i)", "Launch f e n1 b(1+0i)"})
	got[0].Items[0].T = "q"
	_ = append(got[0].Items[:0], api.Item{T: "w"})
	rows := r.a.Rows()
	rows[0].E = "q"
	r.says(hello("e", 1), "Launch f e n1 a(1+0i)", "Launch f e n1 b(1+0i)")
	m = tasks("e", "c")
	got, _ = r.a.Do(m)
	got[0].Items[0].T = "q"
	if m.Items[0].T != "c" {
		t.Error("a result shares memory with the argument")
	}
	r.a.Stream(key("a")).Add(api.Lost)
	r.stream("a", 0)
}

// P19.4: Kill, Shut, Ack, Ask

func TestKill(t *testing.T) {
	r := live(t, "a", "b")
	r.fails(kill("z"), api.ErrNone)
	r.fails(api.Message{Kind: api.Kill, F: "g", T: "a"}, api.ErrNone)
	r.says(kill("a"), "End f e a n1")
	r.says(kill("a"), "End f e a n1")
	r.stream("a", 0)
	r.says(report("e", 1, "a", api.Running), "Status f a #1 @1 running")
	r.says(kill("a"), "End f e a n1")
	r.says(report("e", 1, "a", api.Killed))
	r.says(kill("a"))
	r.stream("a", 0, api.Running, api.Killed)
	r.says(shut("f"), "Stop f e n1")
	r.says(kill("b"))
	r.stream("b", 0)
	r.says(gone("e", 1), "Status f b #1 @1 lost")
	r.says(kill("b"))
	r.stream("b", 0, api.Lost)
	big := tasks("e", "c")
	big.Items[0].Need = 11
	r.says(big, "Status f c #1 @1 refused")
	r.says(kill("c"))
	r.stream("c", 0, api.Refused)
}

func TestKillOfAStartingRun(t *testing.T) {
	r := start(t, config)
	r.says(tasks("e", "a", "b"), "Start f e n1")
	r.says(kill("a"), "Status f a #1 @1 killed")
	r.stream("a", 0, api.Killed)
	r.says(kill("a"))
	r.stream("a", 0, api.Killed)
	r.says(hello("e", 1), "Launch f e n1 b(1+0i)")
	r.phase("e", 1, run.Live)
	r = start(t, config)
	r.says(tasks("e", "a"), "Start f e n1")
	r.says(kill("a"), "Status f a #1 @1 killed")
	r.phase("e", 1, run.Starting)
	r.says(hello("e", 1), "Stop f e n1")
	r.phase("e", 1, run.Ending)
	r = start(t, config)
	r.says(tasks("e", "a"), "Start f e n1")
	x := make([]byte, r.d.Room()-api.Spare-4)
	r.d.Append("x", x)
	r.fails(kill("a"), api.ErrFull)
	r.stream("a", 0)
	r.d.Remove("x")
	r.d.Fuse(1)
	r.fails(kill("a"), api.ErrCrash)
}

func TestKillOfAWaitingRun(t *testing.T) {
	r := live(t, "a", "b")
	r.says(report("e", 1, "b", api.Running), "Status f b #1 @1 running")
	r.crash(0)
	r.says(welcome(), "Status f b #1 @2 running")
	r.says(kill("a"))
	r.says(kill("b"))
	r.stream("a", 0)
	r.phase("e", 1, run.Waiting)
}

func TestShut(t *testing.T) {
	r := live(t, "a")
	r.says(tasks("x", "b"), "Start f x n1")
	other := tasks("e", "a")
	other.F = "g"
	r.says(other, "Start g e n1")
	r.says(tasks("y", "c"), "Start f y n1")
	r.says(shut("h"))
	r.says(shut("f"), "Stop f e n1", "Stop f x n1", "Stop f y n1")
	r.phase("e", 1, run.Ending)
	r.phase("x", 1, run.Ending)
	if _, phase := r.a.Phase("g", "e"); phase != run.Starting {
		t.Error("the run of another framework is told to stop")
	}
	r.silent(2)
	r.says(shut("f"))
	r.says(tasks("z", "d"), "Start f z n1")
	r.says(shut("f"), "Stop f z n1")
	r.silent(2)
	r.ticks(0, "Destroy f e n1", "Destroy f x n1", "Destroy g e n1", "Destroy f y n1", "Status f a #1 @1 lost", "Status f b #1 @1 lost", "Status g a #1 @1 lost", "Status f c #1 @1 lost")
	r.phase("e", 0, 0)
	r.phase("z", 1, run.Ending)
}

func TestShutOfAWaitingRun(t *testing.T) {
	r := live(t, "a")
	r.crash(0)
	r.says(welcome())
	r.silent(3)
	r.says(shut("f"), "Stop f e n1")
	r.silent(4)
	r.phase("e", 1, run.Ending)
	r.ticks(0, "Destroy f e n1", "Status f a #1 @2 lost")
}

func TestAck(t *testing.T) {
	r := live(t, "a", "b")
	r.says(report("e", 1, "a", api.Running), "Status f a #1 @1 running")
	r.says(report("e", 1, "a", api.Failed))
	for _, m := range []api.Message{ack("z", 1, 1), ack("b", 1, 1), ack("a", 2, 1), ack("a", 3, 1), ack("a", 1, 2), ack("a", 1, 9), {Kind: api.Ack, F: "g", T: "a", Number: 1, Epoch: 1}} {
		r.fails(m, api.ErrNone)
	}
	r.says(ack("a", 1, 1), "Status f a #2 @1 failed")
	r.fails(ack("a", 1, 1), api.ErrNone)
	r.stream("a", 1, api.Running, api.Failed)
	r.crash(0)
	r.stream("a", 1, api.Running, api.Failed)
	r.ticks(0, "Register @2")
	r.says(welcome(), "Status f a #2 @2 failed")
	r.fails(ack("a", 2, 1), api.ErrNone)
	r.d.Append("x", make([]byte, r.d.Room()-api.Spare-3))
	r.fails(ack("a", 2, 2), api.ErrFull)
	r.fails(ack("a", 1, 2), api.ErrNone)
	r.d.Remove("x")
	x := r.d.Clone()
	r.d.Fuse(1)
	r.fails(ack("a", 2, 2), api.ErrCrash)
	r.d = x
	r.open()
	r.says(welcome(), "Status f a #2 @3 failed")
	r.says(ack("a", 2, 3))
	r.stream("a", 2, api.Running, api.Failed)
	r.crash(0)
	r.says(welcome())
}

func TestAckOfWhatWasNotSaid(t *testing.T) {
	r := live(t, "a")
	r.crash(0)
	r.says(hello("e", 1), "Launch f e n1 a(1+0i)")
	r.says(report("e", 1, "a", api.Running))
	r.fails(ack("a", 1, 2), api.ErrState)
	r.says(welcome(), "Status f a #1 @2 running")
	r.says(ack("a", 1, 2))
}

func TestAsk(t *testing.T) {
	r := live(t, "b", "a")
	r.says(ask(), "Answer f b staging", "Answer f a staging")
	r.says(report("e", 1, "a", api.Running), "Status f a #1 @1 running")
	big := tasks("e", "c")
	big.Items[0].Need = 11i
	r.says(big, "Status f c #1 @1 refused")
	r.says(ask(), "Answer f b staging", "Answer f a running", "Answer f c refused")
	r.says(ask("z", "a", "c"), "Answer f z lost", "Answer f a running", "Answer f c refused")
	r.says(api.Message{Kind: api.Ask, F: "g"})
	r.says(api.Message{Kind: api.Ask, F: "g", Items: []api.Item{{T: "a"}}}, "Answer g a lost")
}

// P19.4: Hello, Report, Gone

func TestHello(t *testing.T) {
	r := start(t, config)
	m := tasks("e", "a", "b", "c")
	m.Items[1].Need = 2 + 3i
	r.says(m, "Start f e n1")
	for _, m := range []api.Message{hello("e", 2), hello("x", 1), {Kind: api.Hello, F: "g", E: "e", N: 1}} {
		r.fails(m, api.ErrNone)
	}
	all := []string{"Launch f e n1 a(1+0i)", "Launch f e n1 b(2+3i)", "Launch f e n1 c(1+0i)"}
	r.says(hello("e", 1), all...)
	r.says(hello("e", 1), all...)
	r.says(report("e", 1, "a", api.Running), "Status f a #1 @1 running")
	r.says(report("e", 1, "c", api.Finished), "Status f c #1 @1 finished")
	r.says(hello("e", 1), all[1])
	r.phase("e", 1, run.Live)
	r.says(report("e", 1, "b", api.Running), "Status f b #1 @1 running")
	r.says(hello("e", 1))
	r.phase("e", 1, run.Live)
	r.says(shut("f"), "Stop f e n1")
	r.says(hello("e", 1), "Stop f e n1")
	r.phase("e", 1, run.Ending)
	r.says(gone("e", 1))
	r.stream("a", 0, api.Running, api.Lost)
	r.stream("b", 0, api.Running, api.Lost)
	r.stream("c", 0, api.Finished)
}

func TestHelloOfARunWithoutOpenTasks(t *testing.T) {
	r := live(t, "a")
	r.d.Append("x", make([]byte, r.d.Room()-api.Spare-5))
	r.d.Fuse(2)
	got, err := r.a.Do(report("e", 1, "a", api.Finished))
	r.same("Report", got, []string{"Stop f e n1", "Status f a #1 @1 finished"})
	if err != api.OK {
		t.Error(err)
	}
	r.crash(0)
	r.phase("e", 1, run.Waiting)
	r.silentBefore(2)
	r.says(hello("e", 1), "Stop f e n1")
	r.phase("e", 1, run.Ending)
	r.silentBefore(4)
	r.says(hello("e", 1), "Stop f e n1")
	r.phase("e", 1, run.Ending)
	r.ticks(0, "Register @2", "Destroy f e n1")
}

// silentBefore lets n ticks pass in which an agent that is not registered says nothing else.
func (r *rig) silentBefore(n int) {
	r.Helper()
	for range n {
		r.ticks(0, fmt.Sprint("Register @", r.a.Epoch()))
	}
}

func TestReport(t *testing.T) {
	r := live(t, "a", "b")
	r.says(tasks("x", "c"), "Start f x n1")
	for _, m := range []api.Message{report("e", 2, "a", 2), report("y", 1, "a", 2), report("e", 1, "z", 2), report("e", 1, "c", 2), report("x", 1, "c", 2), report("x", 1, "c", api.Lost),
		report("e", 1, "c", api.Lost), {Kind: api.Report, F: "g", E: "e", N: 1, T: "a", State: 2}} {
		r.fails(m, api.ErrNone)
	}
	for _, state := range []int{api.Staging, api.Lost, api.Refused} {
		r.fails(report("e", 1, "a", state), api.ErrState)
	}
	r.says(report("e", 1, "a", api.Running), "Status f a #1 @1 running")
	for _, state := range []int{api.Staging, api.Running, api.Lost, api.Refused} {
		r.fails(report("e", 1, "a", state), api.ErrState)
	}
	r.says(report("e", 1, "a", api.Failed))
	r.stream("a", 0, api.Running, api.Failed)
	for state := api.Staging; state <= api.Refused; state++ {
		r.fails(report("e", 1, "a", state), api.ErrState)
	}
	r.phase("e", 1, run.Live)
	r.says(report("e", 1, "b", api.Killed), "Stop f e n1", "Status f b #1 @1 killed")
	r.phase("e", 1, run.Ending)
	r.fails(report("e", 1, "b", api.Running), api.ErrNone)
	r.silent(1)
}

func TestReportThatEndsARun(t *testing.T) {
	c := config
	c.First, c.Most = 100, 100
	r := start(t, c)
	r.says(tasks("e", "a"), "Start f e n1")
	r.says(hello("e", 1), "Launch f e n1 a(1+0i)")
	r.silent(7)
	r.says(report("e", 1, "a", api.Finished), "Stop f e n1", "Status f a #1 @1 finished")
	r.silent(4)
	r.phase("e", 1, run.Ending)
	r.ticks(0, "Destroy f e n1")
	r.phase("e", 0, 0)
	r.boxes(bin.Box{F: "f", E: "e", N: 1, Since: 12})
	r.stream("a", 0, api.Finished)
}

func TestReportWithoutRoom(t *testing.T) {
	r := live(t, "a")
	r.d.Append("x", make([]byte, r.d.Room()-api.Spare-4))
	r.fails(report("e", 1, "a", api.Finished), api.ErrFull)
	r.phase("e", 1, run.Live)
	r.d.Remove("x")
	r.d.Fuse(0)
	r.fails(report("e", 1, "a", api.Finished), api.ErrCrash)
	r.d.Crash(9)
	r.fails(report("e", 1, "a", api.Finished), api.ErrCrash)
}

func TestReportOfAnotherRunsTask(t *testing.T) {
	r := live(t, "a")
	r.says(gone("e", 1), "Status f a #1 @1 lost")
	r.says(tasks("e", "b"), "Start f e n2")
	r.says(hello("e", 2), "Launch f e n2 b(1+0i)")
	r.fails(report("e", 2, "a", api.Running), api.ErrNone)
	r.fails(report("e", 1, "b", api.Running), api.ErrNone)
	r.fails(hello("e", 1), api.ErrNone)
	r.fails(gone("e", 1), api.ErrNone)
	r.says(report("e", 2, "b", api.Running), "Status f b #1 @1 running")
}

func TestGone(t *testing.T) {
	r := live(t, "a", "b")
	r.says(report("e", 1, "b", api.Finished), "Status f b #1 @1 finished")
	for _, m := range []api.Message{gone("e", 2), gone("x", 1), {Kind: api.Gone, F: "g", E: "e", N: 1}} {
		r.fails(m, api.ErrNone)
	}
	r.silent(1)
	r.says(gone("e", 1), "Status f a #1 @1 lost")
	r.phase("e", 0, 0)
	r.boxes(bin.Box{F: "f", E: "e", N: 1, Since: 1})
	if _, there := r.d.Read(path.Gone("f", "e", 1)); !there || r.a.Used() != 0 {
		t.Error("it is not recorded")
	}
	r.stream("b", 0, api.Finished)
	r.fails(gone("e", 1), api.ErrNone)
}

func TestGoneInAllPhases(t *testing.T) {
	for _, before := range [][]api.Message{nil, {hello("e", 1)}, {shut("f")}, {hello("e", 1), shut("f")}} {
		r := start(t, config)
		r.says(tasks("e", "a"), "Start f e n1")
		for _, m := range before {
			r.a.Do(m)
		}
		r.says(gone("e", 1), "Status f a #1 @1 lost")
		r.phase("e", 0, 0)
	}
	r := live(t, "a")
	r.crash(0)
	r.says(gone("e", 1))
	r.stream("a", 0, api.Lost)
	r.phase("e", 0, 0)
}

func TestACrashInGone(t *testing.T) {
	for n := range 3 {
		r := live(t, "a")
		r.d.Fuse(n)
		r.fails(gone("e", 1), api.ErrCrash)
		r.crash(9)
		r.phase("e", 1, run.Waiting)
		r.stream("a", 0)
	}
}

// P19.5, and the end of sandboxes

func TestTheEndOfSandboxes(t *testing.T) {
	r := live(t, "a")
	r.says(tasks("x", "b"), "Start f x n1")
	r.silent(1)
	r.says(gone("x", 1), "Status f b #1 @1 lost")
	r.says(ack("b", 1, 1))
	r.silent(1)
	r.says(gone("e", 1), "Status f a #1 @1 lost")
	r.says(ack("a", 1, 1))
	r.boxes(bin.Box{F: "f", E: "x", N: 1, Since: 1}, bin.Box{F: "f", E: "e", N: 1, Since: 2})
	r.silent(6)
	r.boxes(bin.Box{F: "f", E: "x", N: 1, Since: 1}, bin.Box{F: "f", E: "e", N: 1, Since: 2})
	r.silent(1)
	r.boxes(bin.Box{F: "f", E: "e", N: 1, Since: 2})
	if l := r.d.List("box/"); !slices.Equal(l, []string{"box/f/e/01"}) {
		t.Errorf("%q are there", l)
	}
	r.silent(1)
	r.boxes()
	if l := r.d.List("box/"); len(l) != 0 {
		t.Errorf("%q are there", l)
	}
	r.crash(0)
	r.boxes()
}

func TestSandboxesOfAFullerDisk(t *testing.T) {
	for used, ticks := range map[int]int{1990: 8, 2001: 4, 3000: 4, 3001: 1, 3900: 1} {
		r := live(t, "a")
		r.says(gone("e", 1), "Status f a #1 @1 lost")
		r.says(ack("a", 1, 1))
		r.d.Append("x", make([]byte, used-r.d.Used()))
		r.silent(ticks - 1)
		r.boxes(bin.Box{F: "f", E: "e", N: 1})
		r.silent(1)
		r.boxes()
	}
}

func TestTheDelayIsThatOfTheBeginning(t *testing.T) {
	// Without the first sandbox the second one might stay.
	r := start(t, config)
	r.says(tasks("e", "a"), "Start f e n1")
	r.says(tasks("x", "b"), "Start f x n1")
	r.says(gone("e", 1), "Status f a #1 @1 lost")
	r.says(ack("a", 1, 1))
	r.says(gone("x", 1), "Status f b #1 @1 lost")
	r.says(ack("b", 1, 1))
	r.d.Append("x", make([]byte, 2001-r.d.Used()))
	r.silent(3)
	r.boxes(bin.Box{F: "f", E: "e", N: 1}, bin.Box{F: "f", E: "x", N: 1})
	r.silent(1)
	r.boxes()
}

func TestACrashAtASandbox(t *testing.T) {
	r := start(t, config)
	r.says(tasks("e", "a"), "Start f e n1")
	r.says(tasks("x", "b"), "Start f x n1")
	r.says(gone("e", 1), "Status f a #1 @1 lost")
	r.says(gone("x", 1), "Status f b #1 @1 lost")
	r.crash(0)
	r.silentBefore(7)
	r.d.Fuse(1)
	got, err := r.a.Tick(0)
	r.same("the tick", got, []string{"Register @2"})
	if err != api.ErrCrash {
		t.Error(err)
	}
	r.boxes(bin.Box{F: "f", E: "x", N: 1})
	r.crash(0)
	r.boxes(bin.Box{F: "f", E: "x", N: 1})
	r.d.Remove("box/f/x/01")
	r.silentBefore(9)
	r.boxes(bin.Box{F: "f", E: "x", N: 1})
}

func TestARunWithoutASandbox(t *testing.T) {
	r := live(t, "a")
	r.d.Remove("box/f/e/01")
	r.says(gone("e", 1), "Status f a #1 @1 lost")
	r.boxes()
	r.crash(0)
	r.boxes()
}

func TestLateRunsInTheirOrder(t *testing.T) {
	r := start(t, config)
	r.says(tasks("y", "c"), "Start f y n1")
	r.says(tasks("e", "a"), "Start f e n1")
	r.says(tasks("x", "b"), "Start f x n1")
	r.says(hello("e", 1), "Launch f e n1 a(1+0i)")
	r.silent(4)
	r.ticks(0, "Destroy f y n1", "Destroy f x n1", "Status f c #1 @1 lost", "Status f b #1 @1 lost")
	r.boxes(bin.Box{F: "f", E: "y", N: 1, Since: 5}, bin.Box{F: "f", E: "x", N: 1, Since: 5})
	r.fails(gone("y", 1), api.ErrNone)
}
