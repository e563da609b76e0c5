package agent_test

import (
	"fmt"
	"slices"
	"testing"

	"hostler/agent"
	"hostler/api"
	"hostler/disk"
	"hostler/life"
)

// P19.6: a cluster in which everything may be lost, and the disk may crash at every act.

// process is an executor's run.
type process struct {
	f, e  string
	n     int
	tasks []string
	ran   map[string]bool
}

type cluster struct {
	*testing.T
	seed     uint32
	c        api.Config
	d        *disk.Disk
	a        *agent.Agent
	procs    []*process
	started  map[string]bool
	launched map[api.Key]bool
	groups   []api.Message           // every Run that was told
	due      []api.Message           // on the way to the agent
	sent     map[api.Key][]int       // states of the updates that the master was sent
	launches map[api.Key]api.Message // how a task was handed over
	loss     int                     // of 10 messages
	next     int                     // task
}

func (c *cluster) draw(n int) int {
	c.seed = c.seed*1664525 + 1013904223
	return int(c.seed>>8) % n
}

func newCluster(t *testing.T, seed uint32) *cluster {
	c := &cluster{T: t, seed: seed, c: config, started: map[string]bool{}, launched: map[api.Key]bool{}, sent: map[api.Key][]int{}, launches: map[api.Key]api.Message{}}
	c.c.Quota = api.MaxQuota
	c.d = disk.New(c.c.Quota)
	c.open(-1)
	return c
}

// state tells what is to be kept: rows, streams, runs and sandboxes.
func (c *cluster) state() string {
	s := fmt.Sprint(c.a.Rows(), c.a.Boxes(), c.a.Used())
	for _, r := range c.a.Rows() {
		n, phase := c.a.Phase(r.Key.F, r.E)
		x := c.a.Stream(r.Key)
		s += fmt.Sprint(";", r.Key, x.Updates(), x.Acked(), n, phase)
	}
	return s
}

// open opens the agent, with a fuse if it is not negative, and compares it with the one before.
func (c *cluster) open(fuse int) {
	old := c.a
	if fuse >= 0 {
		c.d.Fuse(fuse)
	}
	a, err := agent.Open(c.c, c.d)
	for err == api.ErrCrash {
		c.d.Crash(c.draw(4))
		a, err = agent.Open(c.c, c.d)
	}
	if err != api.OK {
		c.Fatalf("seed %d: Open: %d", c.seed, err)
	}
	c.a = a
	if old == nil {
		return
	}
	c.kept(old)
	if a.Epoch() <= old.Epoch() {
		c.Errorf("epoch %d behind %d", a.Epoch(), old.Epoch())
	}
	x := *c
	x.d = c.d.Clone()
	x.d.Crash(0)
	again, err := agent.Open(c.c, x.d)
	if err != api.OK {
		c.Fatalf("seed %d: opened once more: %d", c.seed, err)
	}
	x.a = again
	if c.state() != x.state() {
		c.Errorf("opened once more it is\n%s, not\n%s", x.state(), c.state())
	}
}

// kept checks that everything of the old agent is there, and at most what was in progress besides.
func (c *cluster) kept(old *agent.Agent) {
	rows, before := c.a.Rows(), old.Rows()
	if len(rows) < len(before) || len(rows) > len(before)+api.MaxGroup || !slices.Equal(rows[:len(before)], before) {
		c.Errorf("the rows are %v, and were %v", rows, before)
	}
	more := 0
	for _, r := range before {
		s, x := c.a.Stream(r.Key), old.Stream(r.Key)
		l, m := s.Updates(), x.Updates()
		if len(l) < len(m) || !slices.Equal(l[:len(m)], m) || s.Acked() < x.Acked() {
			c.Errorf("the stream of %v is %v, %d, and was %v, %d", r.Key, l, s.Acked(), m, x.Acked())
			continue
		}
		for _, u := range l[len(m):] {
			if u.State != api.Lost && u.State != api.Refused {
				more++
			}
		}
		more += s.Acked() - x.Acked()
	}
	if more > 1 {
		c.Errorf("%d things were in progress", more)
	}
}

// did checks what the agent has said, and lets it come to the others, or be lost.
func (c *cluster) did(said []api.Message, err api.Errno) {
	for _, m := range said {
		c.check(m)
		if c.draw(10) >= c.loss {
			c.hear(m)
		}
	}
	if err == api.OK {
		c.ended()
	}
	if c.a.Dead() {
		c.d.Crash(c.draw(4))
		c.open(c.draw(30) - 15)
		for _, p := range c.procs {
			c.due = append(c.due, p.message(api.Hello))
		}
	}
}

func (c *cluster) do(m api.Message) {
	said, err := c.a.Do(m)
	if err != api.OK && err != api.ErrCrash && len(said) > 0 {
		c.Errorf("something was said beside the error %d", err)
	}
	c.did(said, err)
}

// check checks T1 and T2 for one message.
func (c *cluster) check(m api.Message) {
	k := api.Key{F: m.F, T: m.T}
	switch m.Kind {
	case api.Status:
		l := c.sent[k]
		if m.Number == len(l)+1 {
			l = append(l, m.State)
			c.sent[k] = l
		}
		if m.Number != len(l) || l[m.Number-1] != m.State || life.Of(l...) == 0 {
			c.Errorf("the update %s behind %v", show(m), l)
		}
		if s := c.a.Stream(k); s == nil || s.Acked() < m.Number-1 || s.Updates()[m.Number-1].State != m.State {
			c.Errorf("%s is said too early", show(m))
		}
	case api.Launch:
		k.T = m.Items[0].T
		if x, there := c.launches[k]; there && show(x) != show(m) {
			c.Errorf("%s, and %s", show(x), show(m))
		}
		c.launches[k] = m
	}
}

// ended checks T4, and that of tasks that go together all are admitted, or none.
func (c *cluster) ended() {
	runOf := map[api.Key]int{}
	for _, r := range c.a.Rows() {
		runOf[r.Key] = r.Run
		over := 0
		for _, u := range c.a.Stream(r.Key).Updates() {
			if life.Over(u.State) {
				over++
			}
		}
		n, _ := c.a.Phase(r.Key.F, r.E)
		if end := r.Run == 0 || n != r.Run; end && over != 1 || over > 1 {
			c.Errorf("%v, whose run is over: %v, has %d ends", r, end, over)
		}
	}
	for _, m := range c.groups {
		runs := map[int]int{}
		for _, it := range m.Items {
			run, there := runOf[api.Key{F: m.F, T: it.T}]
			if !there {
				run = -1
			}
			runs[run]++
		}
		if len(runs) != 1 {
			c.Errorf("of %s some are not with the others", show(m))
		}
	}
}

func (p *process) message(kind int) api.Message {
	return api.Message{Kind: kind, F: p.f, E: p.e, N: p.n}
}

func (p *process) report(t string, state int) api.Message {
	m := p.message(api.Report)
	m.T, m.State = t, state
	return m
}

func (c *cluster) process(m api.Message) int {
	return slices.IndexFunc(c.procs, func(p *process) bool { return p.f == m.F && p.e == m.E && p.n == m.N })
}

// hear is what the master and the executors do with a message.
func (c *cluster) hear(m api.Message) {
	i := c.process(m)
	switch m.Kind {
	case api.Register:
		c.due = append(c.due, welcome())
	case api.Status:
		c.due = append(c.due, api.Message{Kind: api.Ack, F: m.F, T: m.T, Number: m.Number, Epoch: m.Epoch})
	case api.Start:
		if id := fmt.Sprint(m.F, m.E, m.N); !c.started[id] {
			c.started[id] = true
			c.procs = append(c.procs, &process{f: m.F, e: m.E, n: m.N, ran: map[string]bool{}})
			c.due = append(c.due, c.procs[len(c.procs)-1].message(api.Hello))
		}
	case api.Launch:
		if k := (api.Key{F: m.F, T: m.Items[0].T}); i >= 0 && !c.launched[k] {
			c.launched[k] = true
			c.procs[i].tasks = append(c.procs[i].tasks, k.T)
		}
	case api.End:
		if i < 0 {
			return
		}
		if at := slices.Index(c.procs[i].tasks, m.T); at >= 0 {
			c.procs[i].tasks = slices.Delete(c.procs[i].tasks, at, at+1)
			c.due = append(c.due, c.procs[i].report(m.T, api.Killed))
		}
	case api.Stop, api.Destroy:
		if i >= 0 {
			c.procs = slices.Delete(c.procs, i, i+1)
			c.due = append(c.due, api.Message{Kind: api.Gone, F: m.F, E: m.E, N: m.N})
		}
	}
}

// work lets a process go on, or end.
func (c *cluster) work() {
	if len(c.procs) == 0 {
		return
	}
	i := c.draw(len(c.procs))
	p := c.procs[i]
	if c.loss > 0 && c.draw(12) == 0 {
		c.procs = slices.Delete(c.procs, i, i+1)
		c.due = append(c.due, p.message(api.Gone))
		return
	}
	if len(p.tasks) == 0 {
		return
	}
	t := p.tasks[0]
	if !p.ran[t] {
		p.ran[t] = true
		c.due = append(c.due, p.report(t, api.Running))
		return
	}
	p.tasks = p.tasks[1:]
	c.due = append(c.due, p.report(t, api.Finished+c.draw(2)))
}

// ask tells the agent to run something new.
func (c *cluster) ask() {
	m := api.Message{Kind: api.Run, F: "fg"[c.draw(2):][:1], E: "xyz"[c.draw(3):][:1]}
	for range 1 + c.draw(3) {
		c.next++
		m.Items = append(m.Items, api.Item{T: fmt.Sprint("t", c.next), Need: complex(float64(1+c.draw(4)), float64(c.draw(4)))})
	}
	c.groups = append(c.groups, m)
	c.do(m)
}

// task returns a task that was asked for.
func (c *cluster) task() api.Key {
	if len(c.groups) == 0 {
		return key("t1")
	}
	m := c.groups[c.draw(len(c.groups))]
	return api.Key{F: m.F, T: m.Items[c.draw(len(m.Items))].T}
}

// deliver lets one of the messages that are due come to the agent, or be lost, or come twice.
func (c *cluster) deliver() {
	if len(c.due) == 0 {
		return
	}
	i := c.draw(min(len(c.due), 3))
	m := c.due[i]
	if x := c.draw(10); x != 9 || c.loss == 0 {
		c.due = slices.Delete(c.due, i, i+1)
	}
	if c.draw(10) >= c.loss {
		c.do(m)
	}
}

func (c *cluster) step() {
	switch x := c.draw(40); {
	case x < 4:
		c.ask()
	case x < 5:
		k := c.task()
		c.do(api.Message{Kind: api.Kill, F: k.F, T: k.T})
	case x < 6 && c.draw(3) == 0:
		c.do(shut("fg"[c.draw(2):][:1]))
	case x < 7:
		k := c.task()
		c.do(api.Message{Kind: api.Ask, F: k.F, Items: []api.Item{{T: k.T}}})
	case x < 8:
		c.d.Fuse(c.draw(12))
	case x < 14:
		c.tick()
	case x < 22:
		c.work()
	default:
		c.deliver()
	}
}

func (c *cluster) tick() {
	said, err := c.a.Tick(c.draw(5))
	c.did(said, err)
}

// drain loses nothing more, and ends everything.
func (c *cluster) drain() {
	c.loss = 0
	c.d.Crash(9)
	c.open(-1)
	c.due = nil
	for _, p := range c.procs {
		c.due = append(c.due, p.message(api.Hello))
	}
	for n := range 60 {
		c.tick()
		for len(c.due) > 0 {
			c.deliver()
		}
		if n == 20 {
			c.do(shut("f"))
			c.do(shut("g"))
		}
		for range 9 {
			c.work()
		}
	}
	for _, r := range c.a.Rows() {
		if n, phase := c.a.Phase(r.Key.F, r.E); n != 0 || phase != 0 {
			c.Errorf("the run of %v does not end", r)
		}
		if s := c.a.Stream(r.Key); !s.Closed() {
			c.Errorf("the stream of %v is %v, %d", r, s.Updates(), s.Acked())
		}
		if l := c.sent[r.Key]; len(l) != len(c.a.Stream(r.Key).Updates()) {
			c.Errorf("of %v the master was sent %d", r, l)
		}
	}
	if l := c.a.Boxes(); len(l) > 0 || len(c.d.List("box/")) > 0 {
		c.Errorf("%v are there, and %q", l, c.d.List("box/"))
	}
}

func TestTheWhole(t *testing.T) {
	for seed := range 200 {
		c := newCluster(t, uint32(seed)*77777+1)
		c.loss = seed % 4
		for range 260 {
			c.step()
		}
		c.drain()
		if t.Failed() {
			t.Fatalf("seed %d", seed)
		}
	}
}
