package play_test

import (
	"fmt"
	"slices"
	"testing"

	"hostler/api"
	"hostler/life"
	"hostler/play"
	"hostler/run"
)

var config = api.Config{Room: 10 + 10i, Wait: 5, Window: 7, Keep: 8, First: 2, Most: 8, Quota: 8000}

func newPlay(t *testing.T) *play.Play {
	t.Helper()
	p, err := play.New(config)
	if err != api.OK || p == nil {
		t.Fatalf("New: %d", err)
	}
	return p
}

func key(t string) api.Key { return api.Key{F: "f", T: t} }

func tasks(e string, names ...string) api.Message {
	m := api.Message{Kind: api.Run, F: "f", E: e}
	for _, t := range names {
		m.Items = append(m.Items, api.Item{T: t, Need: 1})
	}
	return m
}

// told tells the play something that has no error.
func told(t *testing.T, p *play.Play, m api.Message) {
	t.Helper()
	if err := p.Tell(m); err != api.OK {
		t.Errorf("%v: %d", m, err)
	}
}

// kinds returns what was said since n messages, by their kinds.
func kinds(p *play.Play, n int) []int {
	var l []int
	for _, s := range p.World().Said()[n:] {
		l = append(l, s.Message.Kind)
	}
	return l
}

// round does a Round, in which this is said.
func round(t *testing.T, p *play.Play, want ...int) {
	t.Helper()
	n := len(p.World().Said())
	p.Round(0)
	if got := kinds(p, n); !slices.Equal(got, want) {
		t.Errorf("at %d: %v, not %v", p.World().Agent().Now(), got, want)
	}
}

// registered returns a play whose agent is registered.
func registered(t *testing.T) *play.Play {
	t.Helper()
	p := newPlay(t)
	round(t, p, api.Register)
	return p
}

func TestNew(t *testing.T) {
	p := newPlay(t)
	if len(p.World().Said()) != 0 || p.Hands().Live() != 0 || p.Master().State(key("a")) != 0 || p.Quiet() {
		t.Error("something has happened")
	}
	if p.World() != p.World() || p.Master() != p.Master() || p.Hands() != p.Hands() {
		t.Error("they are not the objects themselves")
	}
	c := config
	c.Quota = 1
	if p, err := play.New(c); err != api.ErrArg || p != nil {
		t.Errorf("New: %d", err)
	}
}

func TestTell(t *testing.T) {
	p := newPlay(t)
	if err := p.Tell(tasks("e", "a")); err != api.ErrState {
		t.Error(err)
	}
	told(t, p, api.Message{Kind: api.Welcome})
	told(t, p, tasks("e", "a"))
	if err := p.Tell(tasks("e", "a")); err != api.ErrThere {
		t.Error(err)
	}
	if got := kinds(p, 0); !slices.Equal(got, []int{api.Start}) || p.Hands().Live() != 0 {
		t.Error("something was passed on before a Round:", got)
	}
}

func TestARoundWithoutTasks(t *testing.T) {
	p := registered(t)
	if !p.World().Agent().Registered() || !p.Quiet() {
		t.Error("it is not registered, or not quiet")
	}
	round(t, p)
	round(t, p)
	if p.World().Agent().Now() != 3 {
		t.Error(p.World().Agent().Now())
	}
}

func TestTheLifeOfATask(t *testing.T) {
	p := registered(t)
	told(t, p, tasks("e", "a", "b"))
	round(t, p, api.Launch, api.Launch)
	if p.Quiet() || !slices.Equal(p.Hands().Launched(), []api.Key{key("a"), key("b")}) || p.Hands().Live() != 1 {
		t.Error("the tasks were not launched")
	}
	round(t, p, api.Status)
	round(t, p, api.Status)
	round(t, p, api.Status)
	round(t, p, api.Stop, api.Status)
	a := p.World().Agent()
	if _, phase := a.Phase("f", "e"); phase != 0 || p.Hands().Live() != 0 || p.Quiet() {
		t.Error("the run does not end, or is quiet")
	}
	for _, x := range []string{"a", "b"} {
		if !a.Stream(key(x)).Closed() || p.Master().State(key(x)) != api.Finished || !slices.Equal(p.Master().Heard(key(x)), []int{1, 2}) {
			t.Errorf("%s: %d", x, p.Master().Heard(key(x)))
		}
	}
	for range 7 {
		round(t, p)
		if p.Quiet() {
			t.Error("a sandbox is in the bin")
		}
	}
	round(t, p)
	if !p.Quiet() {
		t.Error("nothing is to come")
	}
}

func TestWhatIsSaidBetweenRoundsIsPassedOn(t *testing.T) {
	p := registered(t)
	told(t, p, tasks("e", "a"))
	told(t, p, tasks("x", "b"))
	big := tasks("e", "c")
	big.Items[0].Need = 11
	told(t, p, big)
	n := len(p.World().Said())
	if got := kinds(p, n-3); !slices.Equal(got, []int{api.Start, api.Start, api.Status}) {
		t.Error(got)
	}
	round(t, p, api.Launch, api.Launch)
	if p.Master().State(key("c")) != api.Refused || !p.World().Agent().Stream(key("c")).Closed() {
		t.Error("the Status was not passed on")
	}
	// Nothing is passed on twice.
	if got := p.Master().Heard(key("c")); !slices.Equal(got, []int{1}) {
		t.Error(got)
	}
}

func TestAnswersAreToldAtOnce(t *testing.T) {
	// The hands' End of a task is told before a later Stop, and so its Report counts.
	p := registered(t)
	told(t, p, tasks("e", "a", "b"))
	round(t, p, api.Launch, api.Launch)
	told(t, p, api.Message{Kind: api.Kill, F: "f", T: "b"})
	round(t, p, api.Status, api.Status)
	if p.Master().State(key("b")) != api.Killed || p.Master().State(key("a")) != api.Running {
		t.Error(p.Master().State(key("b")))
	}
	told(t, p, api.Message{Kind: api.Shut, F: "f"})
	n := len(p.World().Said())
	p.Round(0)
	if got := kinds(p, n); len(got) != 1 || got[0] != api.Status || p.Hands().Live() != 0 {
		t.Error(got)
	}
	if p.Master().State(key("a")) != api.Lost {
		t.Error(p.Master().State(key("a")))
	}
}

func TestStepsOfOneRound(t *testing.T) {
	// First the tick, then the hands' reports, then what is said.
	p := registered(t)
	told(t, p, tasks("e", "a"))
	told(t, p, tasks("x", "b"))
	round(t, p, api.Launch, api.Launch)
	n := len(p.World().Said())
	p.Round(0)
	l := p.World().Said()[n:]
	if len(l) != 2 || l[0].Message.T != "a" || l[1].Message.T != "b" || l[0].Now != p.World().Agent().Now() {
		t.Error(l)
	}
}

func TestTheDrawIsThatOfTheTick(t *testing.T) {
	// The disk has room for an update, and none for its acknowledgement.
	c := config
	c.First, c.Quota = 4, 112
	for draw, ticks := range map[int]int{0: 4, 1: 3, 2: 2, 3: 4} {
		p, _ := play.New(c)
		told(t, p, api.Message{Kind: api.Welcome})
		told(t, p, tasks("e", "a"))
		// Nobody has heard the Start, and so the run is late at 5.
		for range 4 {
			p.World().Tick(0)
		}
		n := len(p.World().Said())
		p.Round(draw)
		if got := kinds(p, n); !slices.Equal(got, []int{api.Destroy, api.Status}) {
			t.Errorf("draw %d: %v", draw, got)
		}
		for range ticks - 1 {
			round(t, p)
		}
		round(t, p, api.Status)
		if got := p.Master().Heard(key("a")); !slices.Equal(got, []int{1}) {
			t.Errorf("draw %d: %v", draw, got)
		}
	}
}

func TestCrash(t *testing.T) {
	p := registered(t)
	told(t, p, tasks("e", "a", "b"))
	round(t, p, api.Launch, api.Launch)
	round(t, p, api.Status)
	n := len(p.World().Said())
	if err := p.Crash(0, -1); err != api.OK {
		t.Error(err)
	}
	if got := kinds(p, n); !slices.Equal(got, []int{api.Launch}) {
		t.Error("the hands have not said Hello:", got)
	}
	if _, phase := p.World().Agent().Phase("f", "e"); phase != run.Live || p.World().Agent().Epoch() != 2 {
		t.Error(phase)
	}
	round(t, p, api.Register, api.Status)
	for range 20 {
		p.Round(0)
	}
	if !p.Quiet() || len(p.Hands().Launched()) != 2 {
		t.Error("it is not quiet")
	}
	if got := p.Master().Heard(key("a")); !slices.Equal(got, []int{1, 2}) {
		t.Error(got)
	}
}

func TestCrashWithAFuse(t *testing.T) {
	p := registered(t)
	told(t, p, tasks("e", "a"))
	round(t, p, api.Launch)
	n := len(p.World().Said())
	if err := p.Crash(0, 1); err != api.ErrCrash || !p.World().Down() {
		t.Error(err)
	}
	round(t, p)
	if len(p.World().Said()) != n || p.Hands().Live() != 1 {
		t.Error("something has happened in a world that is down")
	}
	// The step of the round above was not heard; the task goes on all the same.
	if err := p.Crash(0, -1); err != api.OK {
		t.Error(err)
	}
	for range 30 {
		p.Round(0)
	}
	if p.Master().State(key("a")) != api.Finished || !p.Quiet() {
		t.Error(p.Master().State(key("a")))
	}
}

func TestQuiet(t *testing.T) {
	p := newPlay(t)
	if p.Quiet() {
		t.Error("it is not registered")
	}
	told(t, p, api.Message{Kind: api.Welcome})
	if !p.Quiet() {
		t.Error("nothing is to come")
	}
	big := tasks("e", "c")
	big.Items[0].Need = 11
	told(t, p, big)
	if p.Quiet() {
		t.Error("an update is to be acknowledged")
	}
	told(t, p, api.Message{Kind: api.Ack, F: "f", T: "c", Number: 1, Epoch: 1})
	if !p.Quiet() {
		t.Error("nothing is to come")
	}
	told(t, p, tasks("e", "a"))
	if p.Quiet() {
		t.Error("a task is to be run")
	}
	told(t, p, api.Message{Kind: api.Kill, F: "f", T: "a"})
	told(t, p, api.Message{Kind: api.Ack, F: "f", T: "a", Number: 1, Epoch: 1})
	if p.Quiet() {
		t.Error("a run is not over")
	}
	told(t, p, api.Message{Kind: api.Gone, F: "f", E: "e", N: 1})
	if p.Quiet() {
		t.Error("a sandbox is to be removed")
	}
	for range 8 {
		p.World().Tick(0)
	}
	if !p.Quiet() {
		t.Error("nothing is to come")
	}
}

func TestNothingIsLost(t *testing.T) {
	// T5: each update is acknowledged in a round, each run ends, each sandbox is removed.
	p := registered(t)
	names := 0
	for n := range 12 {
		m := tasks(fmt.Sprint("e", n%4))
		for range 1 + n%3 {
			names++
			m.Items = append(m.Items, api.Item{T: fmt.Sprint("t", names), Need: 1})
		}
		told(t, p, m)
		p.Round(n)
		for _, r := range p.World().Agent().Rows() {
			if s := p.World().Agent().Stream(r.Key); s.Pending() > 0 {
				t.Errorf("%v is not acknowledged", r)
			}
		}
	}
	for range 40 {
		p.Round(0)
	}
	if !p.Quiet() || p.Hands().Live() != 0 || len(p.World().Disk().List("box/")) != 0 {
		t.Error("it is not quiet")
	}
	for _, r := range p.World().Agent().Rows() {
		state := p.Master().State(r.Key)
		if !life.Over(state) || state == api.Lost || (state == api.Refused) != (r.Run == 0) {
			t.Errorf("%v is %d", r, state)
		}
	}
}
