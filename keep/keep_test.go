package keep_test

import (
	"bytes"
	"fmt"
	"math"
	"slices"
	"testing"

	"hostler/admit"
	"hostler/api"
	"hostler/disk"
	"hostler/keep"
	"hostler/path"
	"hostler/record"
	"hostler/stream"
)

var a, b, c = api.Key{F: "f", T: "a"}, api.Key{F: "f", T: "b"}, api.Key{F: "g", T: "c"}

// first and second are entries with the tasks a and b, and c.
func first() admit.Entry {
	return admit.Entry{F: "f", E: "e", Run: 1, Items: []api.Item{{T: "a", Need: 1 + 2i}, {T: "b", Need: 3}}}
}

func second() admit.Entry {
	return admit.Entry{F: "g", E: "x", Run: 0, Items: []api.Item{{T: "c", Need: 1000i}}}
}

func want(t *testing.T, what string, got, err api.Errno) {
	t.Helper()
	if got != err {
		t.Errorf("%s: error %d, not %d", what, got, err)
	}
}

// open opens a disk that may be opened.
func open(t *testing.T, d *disk.Disk) *keep.Keep {
	t.Helper()
	k, err := keep.Open(d)
	if err != api.OK || k == nil {
		t.Fatalf("Open: %d", err)
	}
	return k
}

// opened returns a disk and a Keep with both entries.
func opened(t *testing.T) (*disk.Disk, *keep.Keep) {
	t.Helper()
	d := disk.New(1000)
	k := open(t, d)
	want(t, "Admit", k.Admit(first()), api.OK)
	want(t, "Admit", k.Admit(second()), api.OK)
	return d, k
}

// text tells everything about a Keep but its epoch.
func text(k *keep.Keep) string {
	s := fmt.Sprint(k.Dead(), k.Entries())
	for _, x := range []api.Key{a, b, c} {
		s += "; " + streamText(k.Stream(x))
	}
	for _, e := range []string{"e", "x"} {
		for n := 1; n < 4; n++ {
			s += fmt.Sprint(";", k.IsGone("f", e, n), k.HasBox("f", e, n))
		}
	}
	return s
}

func streamText(s *stream.Stream) string {
	if s == nil {
		return "none"
	}
	return fmt.Sprint(s.Updates(), s.Acked(), s.Said())
}

// file checks the bytes of a file.
func file(t *testing.T, d *disk.Disk, p string, want []byte) {
	t.Helper()
	if got, there := d.Read(p); !there || !bytes.Equal(got, want) {
		t.Errorf("%q has % x, %v", p, got, there)
	}
}

func TestOpenOfANewDisk(t *testing.T) {
	d := disk.New(64)
	k := open(t, d)
	if k.Epoch() != 1 || len(k.Entries()) != 0 || k.Dead() || k.Stream(a) != nil || k.IsGone("f", "e", 1) || k.HasBox("f", "e", 1) {
		t.Error("something is there")
	}
	file(t, d, "epoch", []byte{1})
	if l := d.List(""); len(l) != 1 {
		t.Errorf("the files are %q", l)
	}
}

func TestEpochs(t *testing.T) {
	d := disk.New(64)
	for n := 1; n < 300; n++ {
		if k := open(t, d); k.Epoch() != n {
			t.Fatalf("epoch %d, not %d", k.Epoch(), n)
		}
		d.Crash(n % 3)
	}
	file(t, d, "epoch", []byte{0xab, 0x02})
}

func TestOpenCleans(t *testing.T) {
	d, k := opened(t)
	before := text(k)
	for _, p := range []string{"epoch", path.Admit(3), path.Box("f", "e", 1), path.Gone("f", "e", 1)} {
		d.Append(path.Temp(p), []byte("rest"))
	}
	k = open(t, d)
	if got := text(k); got != before {
		t.Errorf("%s, not %s", got, before)
	}
	for _, p := range d.List("") {
		if path.IsTemp(p) {
			t.Errorf("%q is left", p)
		}
	}
}

func TestOpenInOneWayOrNotAtAll(t *testing.T) {
	d := disk.New(200)
	d.Append("x~", nil)
	d.Append("y~", nil)
	for n, dead := range []bool{true, true, true, true, true, false} {
		x := d.Clone()
		x.Fuse(n)
		k, err := keep.Open(x)
		if dead && (err != api.ErrCrash || k != nil) || !dead && err != api.OK {
			t.Errorf("fuse %d: %d", n, err)
		}
		x.Crash(n)
		if open(t, x).Epoch() != 1 && dead {
			t.Error("a life that was not opened has an epoch")
		}
	}
}

func TestOpenWithoutRoom(t *testing.T) {
	d := disk.New(64)
	d.Append("x", make([]byte, 64))
	k, err := keep.Open(d)
	if err != api.ErrFull || k != nil {
		t.Error(err)
	}
	d.Cut("x", 63)
	open(t, d)
	k, err = keep.Open(d)
	if err != api.ErrFull || k != nil {
		t.Error("the old and the new epoch are there together, but:", err)
	}
}

// corrupt checks that a disk with these files can't be opened.
func corrupt(t *testing.T, files ...string) {
	t.Helper()
	d := disk.New(1000)
	for i := 0; i < len(files); i += 2 {
		d.Append(files[i], []byte(files[i+1]))
	}
	k, err := keep.Open(d)
	if err != api.ErrCorrupt || k != nil {
		t.Errorf("%q: %d", files, err)
	}
}

func TestFilesWithoutTheirForm(t *testing.T) {
	good, _ := admit.Pack(first())
	for _, s := range []string{"", "\x80", "\x81\x00", "\x01\x01", "\xff\xff\xff\xff\xff\x01"} {
		corrupt(t, "epoch", s)
	}
	for _, s := range []string{"", "x", string(good[1:]), string(good) + "\x00", string(good[:len(good)-1])} {
		corrupt(t, "admit/01", s)
		corrupt(t, "admit/01", string(good), "admit/02", s)
	}
}

func TestEntriesEndAtTheFirstGap(t *testing.T) {
	one, _ := admit.Pack(first())
	two, _ := admit.Pack(second())
	d := disk.New(1000)
	d.Append("admit/01", one)
	d.Append("admit/03", []byte("x"))
	d.Append("admit/00", []byte("x"))
	d.Append("log/g/c", []byte("\x01x\xa5"))
	k := open(t, d)
	if got := fmt.Sprint(k.Entries()); got != fmt.Sprint([]admit.Entry{first()}) {
		t.Error(got)
	}
	d.Remove("admit/03")
	d.Remove("log/g/c")
	d.Append("admit/02", two)
	k = open(t, d)
	if got := fmt.Sprint(k.Entries()); got != fmt.Sprint([]admit.Entry{first(), second()}) {
		t.Error(got)
	}
}

func TestLogsWithoutTheirForm(t *testing.T) {
	one, _ := admit.Pack(first())
	for _, l := range [][]string{
		{""}, {"\x00"}, {"\x03\x01"}, {"\x01"}, {"\x01\x01"}, {"\x01\x01\x02\x00"}, {"\x01\x81\x00\x02"}, {"\x02"}, {"\x02\x01"},
		{"\x01\x02\x02"}, {"\x01\x00\x02"}, {"\x01\x01\x01"}, {"\x01\x01\x08"}, {"\x01\x01\x00"},
		{"\x01\x01\x02", "\x01\x02\x02"}, {"\x01\x01\x02", "\x01\x01\x03"}, {"\x01\x01\x02", "\x01\x03\x03"}, {"\x01\x01\x02", "\x01\x02\x07"},
		{"\x01\x01\x03", "\x01\x02\x04"}, {"\x01\x01\x02", "\x02\x02"}, {"\x01\x01\x02", "\x02\x00"}, {"\x01\x01\x02", "\x02\x01\x00"},
		{"\x01\x01\x02", "\x02\x01", "\x02\x01"}, {"\x01\x01\x02", "\x02\x01", "\x02\x02"}, {"\x01\x01\x02", "\x02\x81\x00"},
		{"\x01\x01\x02", "\x01\x02\x03", "\x02\x02"}, {"\x02\x01", "\x01\x01\x02"}, {"\x81\x00\x01\x02"},
	} {
		s := ""
		for _, x := range l {
			s += string(record.Pack([]byte(x)))
		}
		corrupt(t, "admit/01", string(one), "log/f/a", s)
		corrupt(t, "admit/01", string(one), "log/f/b", s+"rest")
	}
}

func TestLogsOnTheDisk(t *testing.T) {
	one, _ := admit.Pack(first())
	for _, r := range []struct {
		l       []string
		updates []api.Update
		acked   int
	}{
		{nil, nil, 0},
		{[]string{"\x01\x01\x07"}, []api.Update{{Number: 1, State: 7}}, 0},
		{[]string{"\x01\x01\x02", "\x01\x02\x03"}, []api.Update{{Number: 1, State: 2}, {Number: 2, State: 3}}, 0},
		{[]string{"\x01\x01\x02", "\x01\x02\x03", "\x02\x01"}, []api.Update{{Number: 1, State: 2}, {Number: 2, State: 3}}, 1},
		{[]string{"\x01\x01\x02", "\x02\x01", "\x01\x02\x06", "\x02\x02"}, []api.Update{{Number: 1, State: 2}, {Number: 2, State: 6}}, 2},
	} {
		for _, rest := range []string{"", "\x03\x01\x01", "\xff"} {
			d := disk.New(1000)
			d.Append("admit/01", one)
			for _, x := range r.l {
				record.Add(d, "log/f/b", []byte(x))
			}
			d.Append("log/f/b", []byte(rest))
			k := open(t, d)
			s := k.Stream(b)
			if !slices.Equal(s.Updates(), r.updates) || s.Acked() != r.acked || s.Said() {
				t.Errorf("%q: %s", r.l, streamText(s))
			}
			if s := k.Stream(a); len(s.Updates()) != 0 || s.Acked() != 0 {
				t.Errorf("%q: %s", r.l, streamText(s))
			}
			if got, _ := d.Read("log/f/b"); bytes.HasSuffix(got, []byte(rest)) && rest != "" {
				t.Errorf("%q is left", got)
			}
		}
	}
}

func TestErrorsOfOpenInTheirOrder(t *testing.T) {
	one, _ := admit.Pack(first())
	d := disk.New(1000)
	d.Append("admit/01", one)
	d.Append("log/f/a", []byte("\x00\xa5"))
	d.Append("log/f/b", []byte("rest"))
	d.Fuse(3)
	if k, err := keep.Open(d.Clone()); err != api.ErrCorrupt || k != nil {
		t.Error("the first log is met first:", err)
	}
	d.Remove("log/f/a")
	d.Fuse(3)
	if k, err := keep.Open(d.Clone()); err != api.ErrCrash || k != nil {
		t.Error("the second log is to be cut:", err)
	}
	d.Cut("admit/01", 1)
	d.Fuse(3)
	if k, err := keep.Open(d.Clone()); err != api.ErrCorrupt || k != nil {
		t.Error("the entry is met first:", err)
	}
	d.Fuse(2)
	if k, err := keep.Open(d.Clone()); err != api.ErrCrash || k != nil {
		t.Error("the epoch is written first:", err)
	}
	d.Append("epoch", nil)
	d.Fuse(0)
	if k, err := keep.Open(d.Clone()); err != api.ErrCorrupt || k != nil {
		t.Error("the epoch is read first:", err)
	}
	d.Fuse(1)
	d.Append("x~", nil)
	if k, err := keep.Open(d.Clone()); err != api.ErrCrash || k != nil {
		t.Error("what is not complete is removed first:", err)
	}
}

func TestAdmit(t *testing.T) {
	d, k := opened(t)
	one, _ := admit.Pack(first())
	two, _ := admit.Pack(second())
	file(t, d, "admit/01", one)
	file(t, d, "admit/02", two)
	if got := fmt.Sprint(k.Entries()); got != fmt.Sprint([]admit.Entry{first(), second()}) {
		t.Error(got)
	}
	for _, x := range []api.Key{a, b, c} {
		if s := k.Stream(x); s == nil || len(s.Updates()) != 0 || s.State() != api.Staging {
			t.Error(x)
		}
	}
	for _, x := range []api.Key{{F: "g", T: "a"}, {F: "f", T: "c"}, {F: "f"}, {}} {
		if k.Stream(x) != nil {
			t.Error(x)
		}
	}
}

func TestErrorsOfAdmit(t *testing.T) {
	d := disk.New(api.MaxQuota)
	k := open(t, d)
	for _, e := range []admit.Entry{{}, {F: "f", E: "e", Run: 1}, {F: "F", E: "e", Run: 1, Items: first().Items}, {F: "f", E: "e", Run: 25, Items: first().Items}, {F: "f", E: "e", Run: -1, Items: first().Items}} {
		want(t, "a wrong entry", k.Admit(e), api.ErrArg)
	}
	for n := range api.MaxAdmit {
		want(t, "Admit", k.Admit(admit.Entry{F: "f", E: "e", Run: n, Items: []api.Item{{T: fmt.Sprint(n), Need: 1}}}), api.OK)
	}
	before := text(k)
	want(t, "one more", k.Admit(first()), api.ErrLimit)
	want(t, "a wrong one", k.Admit(admit.Entry{}), api.ErrArg)
	d.Append("x", make([]byte, d.Room()))
	want(t, "one more, without room", k.Admit(first()), api.ErrLimit)
	if text(k) != before || len(d.List("admit/")) != api.MaxAdmit {
		t.Error("an error has changed something")
	}
	d.Remove("x")
	if text(open(t, d)) != before {
		t.Error("it is not all there")
	}
}

func TestUpdateAndAck(t *testing.T) {
	d, k := opened(t)
	want(t, "Update", k.Update(a, api.Update{Number: 1, State: api.Running}), api.OK)
	want(t, "Update", k.Update(c, api.Update{Number: 1, State: api.Refused}), api.OK)
	want(t, "Update", k.Update(a, api.Update{Number: 2, State: api.Lost}), api.OK)
	want(t, "Ack", k.Ack(a, 1), api.OK)
	file(t, d, "log/f/a", []byte("\x03\x01\x01\x02\xa5\x03\x01\x02\x06\xa5\x02\x02\x01\xa5"))
	file(t, d, "log/g/c", []byte("\x03\x01\x01\x07\xa5"))
	if got := streamText(k.Stream(a)); got != "[{1 2} {2 6}] 1 false" {
		t.Error(got)
	}
	if got := streamText(k.Stream(b)); got != "[] 0 false" {
		t.Error(got)
	}
	want(t, "Ack", k.Ack(a, 2), api.OK)
	want(t, "Ack", k.Ack(c, 1), api.OK)
	if got := streamText(k.Stream(a)); got != "[{1 2} {2 6}] 2 false" {
		t.Error(got)
	}
	before := text(k)
	d.Crash(0)
	if got := text(open(t, d)); got != before {
		t.Errorf("%s, not %s", got, before)
	}
}

func TestErrorsOfUpdateAndAck(t *testing.T) {
	d, k := opened(t)
	k.Update(a, api.Update{Number: 1, State: api.Running})
	before, used := text(k), d.Used()
	for _, x := range []api.Key{{F: "f", T: "c"}, {F: "g", T: "a"}, {}} {
		want(t, "Update of no task", k.Update(x, api.Update{Number: 1, State: api.Running}), api.ErrNone)
		want(t, "Update of no task", k.Update(x, api.Update{}), api.ErrNone)
		want(t, "Ack of no task", k.Ack(x, 1), api.ErrNone)
	}
	for _, u := range []api.Update{{}, {Number: 1, State: api.Finished}, {Number: 3, State: api.Finished}, {Number: 2, State: api.Running}, {Number: 2, State: api.Refused},
		{Number: 2, State: 0}, {Number: 2, State: 8}, {Number: -2, State: api.Finished}, {Number: math.MaxInt, State: api.Finished}} {
		want(t, "a wrong update", k.Update(a, u), api.ErrArg)
	}
	want(t, "a wrong update", k.Update(b, api.Update{Number: 2, State: api.Running}), api.ErrArg)
	want(t, "a wrong update", k.Update(b, api.Update{Number: 1, State: api.Staging}), api.ErrArg)
	for _, n := range []int{0, 2, -1, math.MaxInt} {
		want(t, "a wrong number", k.Ack(a, n), api.ErrNone)
	}
	want(t, "no update", k.Ack(b, 1), api.ErrNone)
	if text(k) != before || d.Used() != used {
		t.Error("an error has changed something")
	}
	k.Ack(a, 1)
	want(t, "Ack again", k.Ack(a, 1), api.ErrNone)
	want(t, "Ack of the next one", k.Ack(a, 2), api.ErrNone)
}

func TestGone(t *testing.T) {
	d, k := opened(t)
	if k.IsGone("f", "e", 1) {
		t.Error("the run is over")
	}
	want(t, "Gone", k.Gone("f", "e", 1), api.OK)
	file(t, d, "gone/f/e/01", nil)
	if !k.IsGone("f", "e", 1) || k.IsGone("f", "e", 2) || k.IsGone("f", "x", 1) || k.IsGone("g", "e", 1) {
		t.Error("other runs are over")
	}
	want(t, "Gone again", k.Gone("f", "e", 1), api.ErrThere)
	want(t, "Gone of another", k.Gone("f", "e", 24), api.OK)
	d.Crash(0)
	k = open(t, d)
	if !k.IsGone("f", "e", 1) || !k.IsGone("f", "e", 24) {
		t.Error("it is not kept")
	}
	want(t, "Gone again", k.Gone("f", "e", 1), api.ErrThere)
}

// odd are runs that there can't be.
var odd = []struct {
	f, e string
	n    int
}{{"", "e", 1}, {"f", "", 1}, {"F", "e", 1}, {"f", "abcdefghi", 1}, {"f", "e", 0}, {"f", "e", -1}, {"f", "e", 25}, {"f", "e", math.MaxInt}}

func TestRunsThatThereCanNotBe(t *testing.T) {
	d, k := opened(t)
	d.Append("x", nil)
	for _, r := range odd {
		want(t, "Gone", k.Gone(r.f, r.e, r.n), api.ErrArg)
		want(t, "Box", k.Box(r.f, r.e, r.n), api.ErrArg)
		want(t, "Drop", k.Drop(r.f, r.e, r.n), api.ErrNone)
		if k.IsGone(r.f, r.e, r.n) || k.HasBox(r.f, r.e, r.n) {
			t.Error(r)
		}
	}
	if len(d.List("gone/"))+len(d.List("box/"))+len(d.List("~")) != 0 {
		t.Errorf("%q", d.List(""))
	}
}

func TestBox(t *testing.T) {
	d, k := opened(t)
	if k.HasBox("f", "e", 1) {
		t.Error("a sandbox is there")
	}
	want(t, "Drop of none", k.Drop("f", "e", 1), api.ErrNone)
	want(t, "Box", k.Box("f", "e", 1), api.OK)
	file(t, d, "box/f/e/01", make([]byte, 64))
	if !k.HasBox("f", "e", 1) || k.HasBox("f", "e", 2) || k.HasBox("f", "x", 1) || k.HasBox("g", "e", 1) {
		t.Error("other sandboxes are there")
	}
	d.Fuse(0)
	want(t, "Box again", k.Box("f", "e", 1), api.OK)
	if d.Dead() || k.Dead() {
		t.Error("something was done")
	}
	d.Crash(0)
	k = open(t, d)
	if !k.HasBox("f", "e", 1) {
		t.Error("it is not kept")
	}
	want(t, "Drop", k.Drop("f", "e", 1), api.OK)
	if k.HasBox("f", "e", 1) || len(d.List("box/")) != 0 {
		t.Error("a sandbox is there")
	}
	want(t, "Drop again", k.Drop("f", "e", 1), api.ErrNone)
	d.Crash(0)
	if k = open(t, d); k.HasBox("f", "e", 1) {
		t.Error("a sandbox is there")
	}
	d.Append("box/f/e/02", nil)
	if !k.HasBox("f", "e", 2) || k.Box("f", "e", 2) != api.OK {
		t.Error("a sandbox without bytes is one")
	}
}

// acts are the acts of a Keep with both entries, and how many bytes each one appends.
var acts = []struct {
	name string
	size int
	acts int
	do   func(k *keep.Keep) api.Errno
}{
	{"Admit", 10, 3, func(k *keep.Keep) api.Errno {
		return k.Admit(admit.Entry{F: "f", E: "e", Run: 2, Items: []api.Item{{T: "z", Need: 1}}})
	}},
	{"Update", 5, 2, func(k *keep.Keep) api.Errno { return k.Update(b, api.Update{Number: 1, State: api.Lost}) }},
	{"Ack", 4, 2, func(k *keep.Keep) api.Errno { return k.Ack(a, 1) }},
	{"Gone", -1, 3, func(k *keep.Keep) api.Errno { return k.Gone("f", "e", 1) }},
	{"Box", 64, 3, func(k *keep.Keep) api.Errno { return k.Box("f", "e", 2) }},
	{"Drop", -1, 1, func(k *keep.Keep) api.Errno { return k.Drop("f", "e", 1) }},
}

// busy returns a disk and a Keep that all acts can be done to.
func busy(t *testing.T) (*disk.Disk, *keep.Keep) {
	d, k := opened(t)
	want(t, "Update", k.Update(a, api.Update{Number: 1, State: api.Running}), api.OK)
	want(t, "Box", k.Box("f", "e", 1), api.OK)
	return d, k
}

func TestSpareRoom(t *testing.T) {
	for _, act := range acts {
		for _, more := range []int{0, -1, -5, 1} {
			d, k := busy(t)
			left := max(act.size, 0) + api.Spare + more
			if act.size < 0 {
				left = -more
				if more > 0 {
					continue
				}
			}
			d.Append("x", make([]byte, d.Room()-left))
			before, used := text(k), d.Used()
			if act.size >= 0 && more < 0 {
				d.Fuse(0)
				want(t, act.name+" with too little room", act.do(k), api.ErrFull)
				if text(k) != before || d.Used() != used || k.Dead() || d.Dead() {
					t.Errorf("%s has changed something", act.name)
				}
				continue
			}
			want(t, act.name+" with just enough room", act.do(k), api.OK)
			if act.size >= 0 && d.Used() != used+act.size {
				t.Errorf("%s has %d bytes", act.name, d.Used()-used)
			}
			if act.size >= 0 && d.Room() >= api.Spare {
				open(t, d)
			}
		}
	}
}

func TestOwnErrorsComeBeforeErrFull(t *testing.T) {
	d, k := busy(t)
	d.Append("x", make([]byte, d.Room()))
	want(t, "Admit", k.Admit(admit.Entry{}), api.ErrArg)
	want(t, "Update", k.Update(api.Key{}, api.Update{}), api.ErrNone)
	want(t, "Update", k.Update(a, api.Update{}), api.ErrArg)
	want(t, "Ack", k.Ack(api.Key{}, 1), api.ErrNone)
	want(t, "Ack", k.Ack(a, 2), api.ErrNone)
	want(t, "Box", k.Box("f", "e", 0), api.ErrArg)
	want(t, "Box", k.Box("f", "e", 1), api.OK)
	want(t, "Gone", k.Gone("f", "e", 1), api.OK)
	want(t, "Gone", k.Gone("f", "e", 1), api.ErrThere)
	want(t, "Drop", k.Drop("f", "e", 2), api.ErrNone)
	want(t, "Drop", k.Drop("f", "e", 1), api.OK)
}

func TestADeadKeep(t *testing.T) {
	for _, act := range acts {
		for n := range act.acts + 1 {
			d, k := busy(t)
			before := text(k)
			d.Fuse(n)
			if n == act.acts {
				want(t, act.name, act.do(k), api.OK)
				want(t, "the next act", d.Sync("epoch"), api.ErrCrash)
				if k.Dead() {
					t.Error("dead without an error")
				}
				continue
			}
			want(t, act.name, act.do(k), api.ErrCrash)
			if !k.Dead() {
				t.Errorf("%s: not dead", act.name)
			}
			for _, x := range acts {
				want(t, x.name+" of a dead Keep", x.do(k), api.ErrCrash)
			}
			want(t, "a wrong Admit", k.Admit(admit.Entry{}), api.ErrCrash)
			want(t, "a wrong Update", k.Update(api.Key{}, api.Update{}), api.ErrCrash)
			want(t, "a wrong Ack", k.Ack(a, 7), api.ErrCrash)
			want(t, "a wrong Gone", k.Gone("", "", 0), api.ErrCrash)
			want(t, "a wrong Box", k.Box("", "", 0), api.ErrCrash)
			want(t, "a Box that is there", k.Box("f", "e", 1), api.ErrCrash)
			want(t, "a wrong Drop", k.Drop("", "", 0), api.ErrCrash)
			d.Crash(0)
			want(t, act.name+" behind the crash", act.do(k), api.ErrCrash)
			if got := text(open(t, d)); got != before {
				t.Errorf("%s, fuse %d: %s, not %s", act.name, n, got, before)
			}
		}
	}
}

func TestStreamIsAClone(t *testing.T) {
	_, k := busy(t)
	s := k.Stream(a)
	s.Say(0, 1, 0)
	s.Ack(1)
	s.Add(api.Lost)
	if got := streamText(k.Stream(a)); got != "[{1 2}] 0 false" {
		t.Error(got)
	}
	s = k.Stream(a)
	k.Ack(a, 1)
	if got := streamText(s); got != "[{1 2}] 0 false" {
		t.Error(got)
	}
}

func TestMemory(t *testing.T) {
	d := disk.New(1000)
	k := open(t, d)
	e := first()
	room := append(e.Items, api.Item{T: "rest"})
	e.Items = room[:2]
	k.Admit(e)
	e.Items[0].T = "q"
	l := k.Entries()
	l[0].Items[1].T = "q"
	l[0].F = "q"
	_ = append(l[0].Items[:0], api.Item{T: "w"})
	if got := fmt.Sprint(k.Entries()); got != fmt.Sprint([]admit.Entry{first()}) || room[2].T != "rest" {
		t.Error(got)
	}
	l = k.Entries()
	k.Admit(second())
	if len(l) != 1 || len(k.Entries()) != 2 {
		t.Error("a result was changed")
	}
}

// script are acts that can be done one after the other.
var script = []func(k *keep.Keep) api.Errno{
	func(k *keep.Keep) api.Errno { return k.Box("f", "e", 1) },
	func(k *keep.Keep) api.Errno { return k.Admit(first()) },
	func(k *keep.Keep) api.Errno { return k.Update(a, api.Update{Number: 1, State: api.Running}) },
	func(k *keep.Keep) api.Errno { return k.Admit(second()) },
	func(k *keep.Keep) api.Errno { return k.Update(c, api.Update{Number: 1, State: api.Refused}) },
	func(k *keep.Keep) api.Errno { return k.Ack(a, 1) },
	func(k *keep.Keep) api.Errno { return k.Update(a, api.Update{Number: 2, State: api.Failed}) },
	func(k *keep.Keep) api.Errno { return k.Gone("f", "e", 1) },
	func(k *keep.Keep) api.Errno { return k.Update(b, api.Update{Number: 1, State: api.Lost}) },
	func(k *keep.Keep) api.Errno { return k.Ack(c, 1) },
	func(k *keep.Keep) api.Errno { return k.Drop("f", "e", 1) },
	func(k *keep.Keep) api.Errno { return k.Ack(a, 2) },
}

func TestCrashes(t *testing.T) {
	var after []string
	k := open(t, disk.New(1000))
	after = append(after, text(k))
	for _, do := range script {
		want(t, "an act of the script", do(k), api.OK)
		after = append(after, text(k))
	}
	for fuse := range 36 {
		for keep := range 12 {
			d := disk.New(1000)
			k := open(t, d)
			d.Fuse(fuse)
			done := 0
			for done < len(script) && script[done](k) == api.OK {
				done++
			}
			d.Crash(keep)
			k = open(t, d)
			got := text(k)
			if got != after[done] && (done == len(script) || got != after[done+1]) {
				t.Errorf("fuse %d, kept %d: %d done, %s", fuse, keep, done, got)
			}
			if k.Epoch() != 2 {
				t.Errorf("epoch %d", k.Epoch())
			}
			d.Crash(keep)
			if again := text(open(t, d)); again != got {
				t.Errorf("fuse %d, kept %d: opened once more it is %s", fuse, keep, again)
			}
		}
	}
}
