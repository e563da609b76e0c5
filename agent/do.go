package agent

import (
	"hostler/admit"
	"hostler/answer"
	"hostler/api"
	"hostler/life"
	"hostler/message"
	"hostler/run"
	"hostler/tasks"
)

// Do processes the message m, and returns what was said.
func (a *Agent) Do(m api.Message) ([]api.Message, api.Errno) {
	if a.Dead() {
		return nil, api.ErrCrash
	}
	if err := message.Check(m); err != api.OK {
		return nil, err
	}
	if m.Kind >= api.Register {
		return nil, api.ErrArg
	}
	said, err := a.process(m)
	if err != api.OK {
		return nil, err
	}
	if a.settle() == api.ErrCrash {
		return said, api.ErrCrash
	}
	return append(said, a.speak(0)...), api.OK
}

func (a *Agent) process(m api.Message) ([]api.Message, api.Errno) {
	switch m.Kind {
	case api.Welcome:
		a.registered = true
		return nil, api.OK
	case api.Hello:
		return a.hello(m)
	case api.Report:
		return a.report(m)
	case api.Gone:
		return nil, a.gone(m)
	}
	if !a.registered {
		return nil, api.ErrState
	}
	return a.serve(m)
}

// serve processes a message of the master, who has welcomed the agent.
func (a *Agent) serve(m api.Message) ([]api.Message, api.Errno) {
	switch m.Kind {
	case api.Run:
		return a.runTasks(m)
	case api.Kill:
		return a.kill(m)
	case api.Shut:
		return a.shut(m), api.OK
	case api.Ack:
		return nil, a.ack(m)
	}
	return answer.Of(a.keep.Entries(), m.F, m.Items, a.State), api.OK
}

// runTasks admits the tasks of m, or refuses them.
func (a *Agent) runTasks(m api.Message) ([]api.Message, api.Errno) {
	entries := a.keep.Entries()
	if !admit.New(entries, m.F, m.Items) {
		return nil, api.ErrThere
	}
	e := admit.Entry{F: m.F, E: m.E, Items: m.Items}
	r := a.crew.Find(m.F, m.E)
	if r != nil && r.Phase() == run.Ending || !tasks.Fits(a.Used(), a.config.Room, m.Items) {
		return nil, a.enter(e)
	}
	if r != nil {
		return a.join(r, e)
	}
	e.Run = admit.LastRun(entries, m.F, m.E) + 1
	return a.start(e)
}

// enter admits e, whose tasks have streams from then on.
func (a *Agent) enter(e admit.Entry) api.Errno {
	if err := a.keep.Admit(e); err != api.OK {
		return err
	}
	for _, it := range e.Items {
		k := api.Key{F: e.F, T: it.T}
		a.streams[k] = a.keep.Stream(k)
	}
	return api.OK
}

// join admits e by the run r.
func (a *Agent) join(r *run.Run, e admit.Entry) ([]api.Message, api.Errno) {
	_, _, e.Run = r.Who()
	if err := a.enter(e); err != api.OK {
		return nil, err
	}
	if r.Phase() != run.Live {
		return nil, api.OK
	}
	var said []api.Message
	for _, it := range e.Items {
		said = append(said, launch(r, it))
	}
	return said, api.OK
}

// start admits e by a new run. Its sandbox comes first: one without an entry is
// removed by the next life, while an entry without one would be there for ever.
func (a *Agent) start(e admit.Entry) ([]api.Message, api.Errno) {
	if err := a.keep.Box(e.F, e.E, e.Run); err != api.OK {
		return nil, err
	}
	if err := a.enter(e); err != api.OK {
		if a.keep.Drop(e.F, e.E, e.Run) == api.ErrCrash {
			return nil, api.ErrCrash
		}
		return nil, err
	}
	r := run.New(e.F, e.E, e.Run)
	r.Begin(run.Starting, a.tick+a.config.Wait)
	a.crew.Add(r)
	return []api.Message{about(r, api.Start)}, api.OK
}

func launch(r *run.Run, it api.Item) api.Message {
	m := about(r, api.Launch)
	m.Items = []api.Item{it}
	return m
}

// find returns the first row with this key.
func find(rows []tasks.Row, k api.Key) (tasks.Row, bool) {
	for _, r := range rows {
		if r.Key == k {
			return r, true
		}
	}
	return tasks.Row{}, false
}

func (a *Agent) kill(m api.Message) ([]api.Message, api.Errno) {
	k := api.Key{F: m.F, T: m.T}
	row, there := find(a.Rows(), k)
	if !there {
		return nil, api.ErrNone
	}
	r := a.crew.Exact(m.F, row.E, row.Run)
	if r == nil || row.Run == 0 || life.Over(a.State(k)) {
		return nil, api.OK
	}
	switch r.Phase() {
	case run.Live:
		end := about(r, api.End)
		end.T = m.T
		return []api.Message{end}, api.OK
	case run.Starting:
		return nil, a.update(k, api.Killed)
	}
	return nil, api.OK
}

func (a *Agent) shut(m api.Message) []api.Message {
	var said []api.Message
	for _, r := range a.crew.All() {
		if f, _, _ := r.Who(); f == m.F {
			said = append(said, a.stop(r)...)
		}
	}
	return said
}

// stop tells the run r to stop, if it may still be told so.
func (a *Agent) stop(r *run.Run) []api.Message {
	if r.Stop(a.tick+a.config.Wait) != api.OK {
		return nil
	}
	return []api.Message{about(r, api.Stop)}
}

// stopIdle tells the run r to stop, if none of its tasks is open.
func (a *Agent) stopIdle(r *run.Run) []api.Message {
	if len(tasks.Open(a.rowsOf(r), a.State)) > 0 {
		return nil
	}
	return a.stop(r)
}

func (a *Agent) rowsOf(r *run.Run) []tasks.Row {
	f, e, n := r.Who()
	return tasks.Of(a.keep.Entries(), f, e, n)
}

func (a *Agent) ack(m api.Message) api.Errno {
	k := api.Key{F: m.F, T: m.T}
	s, there := a.streams[k]
	if !there || m.Epoch != a.Epoch() || !s.Said() {
		return api.ErrNone
	}
	if u, ok := s.Front(); !ok || u.Number != m.Number {
		return api.ErrNone
	}
	if err := a.keep.Ack(k, m.Number); err != api.OK {
		return err
	}
	return s.Ack(m.Number)
}

func (a *Agent) hello(m api.Message) ([]api.Message, api.Errno) {
	r := a.crew.Exact(m.F, m.E, m.N)
	if r == nil {
		return nil, api.ErrNone
	}
	if r.Phase() == run.Ending {
		return []api.Message{about(r, api.Stop)}, api.OK
	}
	if err := r.Hello(); err != api.OK {
		return nil, err
	}
	var said []api.Message
	for _, row := range a.rowsOf(r) {
		if len(a.streams[row.Key].Updates()) == 0 {
			said = append(said, launch(r, api.Item{T: row.Key.T, Need: row.Need}))
		}
	}
	return append(said, a.stopIdle(r)...), api.OK
}

func (a *Agent) report(m api.Message) ([]api.Message, api.Errno) {
	r := a.crew.Exact(m.F, m.E, m.N)
	if r == nil || r.Phase() != run.Live {
		return nil, api.ErrNone
	}
	k := api.Key{F: m.F, T: m.T}
	if _, there := find(a.rowsOf(r), k); !there {
		return nil, api.ErrNone
	}
	if m.State == api.Lost || m.State == api.Refused || !life.May(a.State(k), m.State) {
		return nil, api.ErrState
	}
	if err := a.update(k, m.State); err != api.OK {
		return nil, err
	}
	return a.stopIdle(r), api.OK
}

func (a *Agent) gone(m api.Message) api.Errno {
	r := a.crew.Exact(m.F, m.E, m.N)
	if r == nil {
		return api.ErrNone
	}
	return a.over(r)
}
