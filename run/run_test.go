package run_test

import (
	"math"
	"testing"

	"hostler/api"
	"hostler/run"
)

const never = math.MaxInt

// is checks the run's phase, and from which tick on it is late.
func is(t *testing.T, what string, r *run.Run, phase, due int) {
	t.Helper()
	if got := r.Phase(); got != phase {
		t.Errorf("%s: phase %d, not %d", what, got, phase)
	}
	for _, now := range []int{0, 1, due - 1, due, 100000} {
		if got, want := r.Late(now), due != never && now >= due; got != want {
			t.Errorf("%s: late at %d: %v", what, now, got)
		}
	}
	if f, e, n := r.Who(); f != "f" || e != "e" || n != 7 {
		t.Errorf("%s: it is %q, %q, %d", what, f, e, n)
	}
}

// in returns a run in this phase, and since when it is late.
func in(phase int) (*run.Run, int) {
	r := run.New("f", "e", 7)
	switch phase {
	case run.Starting, run.Waiting:
		r.Begin(phase, 20)
		return r, 20
	case run.Live:
		r.Begin(run.Starting, 20)
		r.Hello()
	case run.Ending:
		r.Begin(run.Starting, 20)
		r.Stop(30)
		return r, 30
	case run.Over:
		r.Begin(run.Waiting, 20)
		r.End()
	}
	return r, never
}

func TestPhases(t *testing.T) {
	if run.Starting != 1 || run.Live != 2 || run.Ending != 3 || run.Waiting != 4 || run.Over != 5 {
		t.Error("a phase has another number")
	}
	for phase := range 6 {
		r, due := in(phase)
		is(t, "at first", r, phase, due)
	}
}

func TestBegin(t *testing.T) {
	for phase := range 6 {
		for x := -1; x < 8; x++ {
			r, due := in(phase)
			err := r.Begin(x, 50)
			switch {
			case x != run.Starting && x != run.Waiting:
				if err != api.ErrArg {
					t.Errorf("Begin of %d in %d: %d", x, phase, err)
				}
			case phase != 0:
				if err != api.ErrState {
					t.Errorf("Begin of %d in %d: %d", x, phase, err)
				}
			default:
				if err != api.OK {
					t.Errorf("Begin of %d in %d: %d", x, phase, err)
				}
				phase, due = x, 50
			}
			is(t, "after Begin", r, phase, due)
			if err == api.OK {
				phase = 0
			}
		}
	}
}

// steps says which phase one of these acts leads to; 0 for an error.
var steps = map[string][6]int{
	"Hello": {0, run.Live, run.Live, 0, run.Live, 0},
	"Stop":  {0, run.Ending, run.Ending, 0, run.Ending, 0},
	"End":   {0, run.Over, run.Over, run.Over, run.Over, 0},
}

func TestSteps(t *testing.T) {
	for what, to := range steps {
		for phase := range 6 {
			r, due := in(phase)
			var err api.Errno
			next := never
			switch what {
			case "Hello":
				err = r.Hello()
			case "Stop":
				err, next = r.Stop(44), 44
			case "End":
				err = r.End()
			}
			if to[phase] == 0 {
				if err != api.ErrState {
					t.Errorf("%s in %d: %d", what, phase, err)
				}
				is(t, what, r, phase, due)
				continue
			}
			if err != api.OK {
				t.Errorf("%s in %d: %d", what, phase, err)
			}
			is(t, what, r, to[phase], next)
		}
	}
}

func TestDueAtTickZero(t *testing.T) {
	r := run.New("f", "e", 7)
	if r.Late(0) || r.Late(never) {
		t.Error("a new run is late")
	}
	r.Begin(run.Waiting, 0)
	is(t, "due at 0", r, run.Waiting, 0)
	r.Stop(0)
	is(t, "due at 0", r, run.Ending, 0)
}

func TestWho(t *testing.T) {
	for _, x := range []struct {
		f, e string
		n    int
	}{{"", "", 0}, {"a", "b", -1}, {"framework", "x", math.MaxInt}} {
		if f, e, n := run.New(x.f, x.e, x.n).Who(); f != x.f || e != x.e || n != x.n {
			t.Error(f, e, n)
		}
	}
}

func TestClone(t *testing.T) {
	for phase := range 6 {
		r, due := in(phase)
		x := r.Clone()
		is(t, "the clone", x, phase, due)
		x.Begin(run.Waiting, 3)
		x.Stop(4)
		x.End()
		is(t, "the first one", r, phase, due)
		r, _ = in(phase)
		x = r.Clone()
		r.Begin(run.Starting, 3)
		r.End()
		is(t, "the clone", x, phase, due)
	}
}
