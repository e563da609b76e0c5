package disk_test

import (
	"bytes"
	"fmt"
	"math"
	"slices"
	"testing"

	"hostler/api"
	"hostler/disk"
)

// want checks an error.
func want(t *testing.T, what string, got, err api.Errno) {
	t.Helper()
	if got != err {
		t.Errorf("%s: error %d, not %d", what, got, err)
	}
}

// has checks that the disk has exactly these files, path by path.
func has(t *testing.T, d *disk.Disk, files ...string) {
	t.Helper()
	var paths []string
	used := 0
	for i := 0; i < len(files); i += 2 {
		paths = append(paths, files[i])
		used += len(files[i+1])
		if b, there := d.Read(files[i]); !there || string(b) != files[i+1] {
			t.Errorf("%q has %q, %v", files[i], b, there)
		}
	}
	if got := d.List(""); !slices.Equal(got, paths) {
		t.Errorf("the files are %q", got)
	}
	if d.Used() != used {
		t.Errorf("%d bytes are used, not %d", d.Used(), used)
	}
}

func TestANewDisk(t *testing.T) {
	d := disk.New(100)
	has(t, d)
	if b, there := d.Read("a"); there || len(b) != 0 {
		t.Error("a file is there")
	}
	if d.Room() != 100 || d.Dead() {
		t.Error(d.Room(), d.Dead())
	}
}

func TestQuota(t *testing.T) {
	for quota, room := range map[int]int{0: 0, 1: 1, 64: 64, api.MaxQuota: api.MaxQuota, api.MaxQuota + 1: api.MaxQuota, -1: 0, math.MinInt: 0, math.MaxInt: api.MaxQuota} {
		if got := disk.New(quota).Room(); got != room {
			t.Errorf("quota %d: room %d", quota, got)
		}
	}
}

func TestAppend(t *testing.T) {
	d := disk.New(6)
	want(t, "Append", d.Append("b", []byte("xy")), api.OK)
	want(t, "Append", d.Append("a", nil), api.OK)
	want(t, "Append", d.Append("b", []byte("z")), api.OK)
	has(t, d, "a", "", "b", "xyz")
	if d.Room() != 3 {
		t.Error(d.Room())
	}
	want(t, "too many", d.Append("c", []byte("1234")), api.ErrFull)
	want(t, "too many", d.Append("b", []byte("1234")), api.ErrFull)
	has(t, d, "a", "", "b", "xyz")
	want(t, "just as many", d.Append("c", []byte("123")), api.OK)
	want(t, "nothing", d.Append("d", nil), api.OK)
	want(t, "one more", d.Append("d", []byte("1")), api.ErrFull)
	want(t, "no path", d.Append("", nil), api.ErrArg)
	want(t, "no path", d.Append("", []byte("1")), api.ErrArg)
	has(t, d, "a", "", "b", "xyz", "c", "123", "d", "")
	if d.Room() != 0 {
		t.Error(d.Room())
	}
}

func TestActsOnFilesThatAreNotThere(t *testing.T) {
	d := disk.New(10)
	d.Append("a", []byte("1"))
	want(t, "Sync", d.Sync("b"), api.ErrNone)
	want(t, "Rename", d.Rename("b", "a"), api.ErrNone)
	want(t, "Rename", d.Rename("b", "b"), api.ErrNone)
	want(t, "Cut", d.Cut("b", 0), api.ErrNone)
	want(t, "Cut", d.Cut("b", -1), api.ErrNone)
	want(t, "Remove", d.Remove("b"), api.ErrNone)
	want(t, "Sync", d.Sync(""), api.ErrArg)
	want(t, "Rename", d.Rename("", "a"), api.ErrArg)
	want(t, "Rename", d.Rename("a", ""), api.ErrArg)
	want(t, "Rename", d.Rename("b", ""), api.ErrArg)
	want(t, "Cut", d.Cut("", 0), api.ErrArg)
	want(t, "Remove", d.Remove(""), api.ErrArg)
	has(t, d, "a", "1")
}

func TestRename(t *testing.T) {
	d := disk.New(10)
	d.Append("a", []byte("12"))
	d.Append("b", []byte("345"))
	want(t, "Rename", d.Rename("a", "b"), api.OK)
	has(t, d, "b", "12")
	want(t, "Rename", d.Rename("b", "c"), api.OK)
	has(t, d, "c", "12")
	if d.Room() != 8 {
		t.Error(d.Room())
	}
	d.Append("c", []byte("6"))
	want(t, "Rename to itself", d.Rename("c", "c"), api.OK)
	has(t, d, "c", "126")
	d.Crash(0)
	has(t, d, "c", "126")
}

func TestCut(t *testing.T) {
	d := disk.New(10)
	d.Append("a", []byte("12345"))
	want(t, "Cut", d.Cut("a", 6), api.ErrArg)
	want(t, "Cut", d.Cut("a", -1), api.ErrArg)
	want(t, "Cut", d.Cut("a", math.MinInt), api.ErrArg)
	want(t, "Cut", d.Cut("a", math.MaxInt), api.ErrArg)
	has(t, d, "a", "12345")
	want(t, "Cut", d.Cut("a", 5), api.OK)
	has(t, d, "a", "12345")
	want(t, "Cut", d.Cut("a", 2), api.OK)
	has(t, d, "a", "12")
	d.Append("a", []byte("678"))
	d.Crash(1)
	has(t, d, "a", "126")
	want(t, "Cut", d.Cut("a", 0), api.OK)
	has(t, d, "a", "")
	if d.Room() != 10 {
		t.Error(d.Room())
	}
}

func TestRemove(t *testing.T) {
	d := disk.New(4)
	d.Append("a", []byte("1234"))
	want(t, "Remove", d.Remove("a"), api.OK)
	has(t, d)
	want(t, "Remove again", d.Remove("a"), api.ErrNone)
	want(t, "room again", d.Append("b", []byte("1234")), api.OK)
}

func TestList(t *testing.T) {
	d := disk.New(10)
	for _, p := range []string{"b/2", "a", "b", "B", "b/10", "b/1", "ba", "\xff", "c/x", "b/1/x"} {
		d.Append(p, nil)
	}
	for prefix, l := range map[string][]string{
		"":     {"B", "a", "b", "b/1", "b/1/x", "b/10", "b/2", "ba", "c/x", "\xff"},
		"b/":   {"b/1", "b/1/x", "b/10", "b/2"},
		"b/1":  {"b/1", "b/1/x", "b/10"},
		"b":    {"b", "b/1", "b/1/x", "b/10", "b/2", "ba"},
		"c/x":  {"c/x"},
		"c/xy": nil,
		"/":    nil,
		"\xff": {"\xff"},
	} {
		if got := d.List(prefix); !slices.Equal(got, l) {
			t.Errorf("%q: %q", prefix, got)
		}
	}
}

func TestWhatACrashKeeps(t *testing.T) {
	for keep, rest := range map[int]string{-5: "", math.MinInt: "", 0: "", 1: "c", 2: "cd", 3: "cde", 4: "cde", math.MaxInt: "cde"} {
		d := disk.New(100)
		d.Append("s", []byte("ab"))
		d.Sync("s")
		d.Append("s", []byte("c"))
		d.Append("s", []byte("de"))
		d.Append("n", []byte("cde"))
		d.Crash(keep)
		if rest == "" {
			has(t, d, "s", "ab")
		} else {
			has(t, d, "n", rest, "s", "ab"+rest)
		}
		d.Crash(0)
		if b, _ := d.Read("s"); string(b) != "ab"+rest {
			t.Errorf("a second crash has left %q", b)
		}
	}
}

func TestFilesWithoutBytesInACrash(t *testing.T) {
	d := disk.New(100)
	d.Append("new", nil)
	d.Append("synced", nil)
	d.Sync("synced")
	d.Append("cut", []byte("1"))
	d.Cut("cut", 0)
	d.Append("x", nil)
	d.Rename("x", "renamed")
	d.Append("lost", []byte("1"))
	d.Append("firm", nil)
	d.Sync("firm")
	d.Append("firm", []byte("1"))
	d.Append("y", nil)
	d.Rename("y", "gone")
	d.Remove("gone")
	d.Append("gone", nil)
	d.Append("over", nil)
	d.Sync("over")
	d.Append("z", nil)
	d.Sync("z")
	d.Remove("z")
	d.Append("z", nil)
	d.Crash(0)
	has(t, d, "cut", "", "firm", "", "over", "", "renamed", "", "synced", "")
	d = disk.New(100)
	d.Append("new", nil)
	d.Crash(9)
	has(t, d)
}

func TestRenameSyncsAllBytes(t *testing.T) {
	d := disk.New(100)
	d.Append("a", []byte("123"))
	d.Rename("a", "b")
	d.Append("b", []byte("4"))
	d.Crash(0)
	has(t, d, "b", "123")
}

// act is something that can be done to a disk that acted has prepared.
type act struct {
	name string
	do   func(d *disk.Disk) api.Errno
}

var good = []act{
	{"Append", func(d *disk.Disk) api.Errno { return d.Append("a", []byte("1")) }},
	{"Append of nothing", func(d *disk.Disk) api.Errno { return d.Append("a", nil) }},
	{"Append of a file", func(d *disk.Disk) api.Errno { return d.Append("new", nil) }},
	{"Sync", func(d *disk.Disk) api.Errno { return d.Sync("a") }},
	{"Rename", func(d *disk.Disk) api.Errno { return d.Rename("a", "b") }},
	{"Rename to itself", func(d *disk.Disk) api.Errno { return d.Rename("a", "a") }},
	{"Cut", func(d *disk.Disk) api.Errno { return d.Cut("a", 1) }},
	{"Cut of nothing", func(d *disk.Disk) api.Errno { return d.Cut("a", 2) }},
	{"Remove", func(d *disk.Disk) api.Errno { return d.Remove("a") }},
}

var wrong = []act{
	{"Append of too much", func(d *disk.Disk) api.Errno { return d.Append("a", make([]byte, 99)) }},
	{"Append without a path", func(d *disk.Disk) api.Errno { return d.Append("", nil) }},
	{"Sync of none", func(d *disk.Disk) api.Errno { return d.Sync("none") }},
	{"Sync without a path", func(d *disk.Disk) api.Errno { return d.Sync("") }},
	{"Rename of none", func(d *disk.Disk) api.Errno { return d.Rename("none", "b") }},
	{"Rename without a path", func(d *disk.Disk) api.Errno { return d.Rename("a", "") }},
	{"Rename without a path", func(d *disk.Disk) api.Errno { return d.Rename("", "a") }},
	{"Cut of none", func(d *disk.Disk) api.Errno { return d.Cut("none", 0) }},
	{"Cut of too much", func(d *disk.Disk) api.Errno { return d.Cut("a", 3) }},
	{"Remove of none", func(d *disk.Disk) api.Errno { return d.Remove("none") }},
	{"Remove without a path", func(d *disk.Disk) api.Errno { return d.Remove("") }},
}

// acted returns a disk with the files a and b.
func acted() *disk.Disk {
	d := disk.New(10)
	d.Append("a", []byte("12"))
	d.Append("b", []byte("345"))
	return d
}

func TestTheFuse(t *testing.T) {
	for _, n := range []int{-3, math.MinInt, 0, 1, 2, 5} {
		for _, a := range good {
			d := acted()
			d.Fuse(n)
			for range n {
				want(t, "an act before the fuse", d.Sync("b"), api.OK)
				for _, w := range wrong {
					if err := w.do(d); err == api.OK || err == api.ErrCrash {
						t.Errorf("%s: %d", w.name, err)
					}
				}
			}
			for _, w := range wrong {
				if err := w.do(d); err == api.OK || err == api.ErrCrash || d.Dead() {
					t.Errorf("%s at the fuse: %d", w.name, err)
				}
			}
			want(t, a.name+" at the fuse", a.do(d), api.ErrCrash)
			if !d.Dead() {
				t.Error("the disk is not dead")
			}
			has(t, d, "a", "12", "b", "345")
			for _, l := range [][]act{good, wrong} {
				for _, x := range l {
					want(t, x.name+" of a dead disk", x.do(d), api.ErrCrash)
				}
			}
			has(t, d, "a", "12", "b", "345")
			d.Crash(99)
			if d.Dead() {
				t.Error("the disk is dead behind a crash")
			}
			for range 9 {
				want(t, "an act behind a crash", d.Sync("a"), api.OK)
			}
		}
	}
}

func TestTheFuseDoesNothingBeforeItBlows(t *testing.T) {
	for _, a := range good {
		x, y := acted(), acted()
		y.Fuse(1)
		want(t, a.name, a.do(x), api.OK)
		want(t, a.name, a.do(y), api.OK)
		if !equal(x, y) {
			t.Errorf("%s is another one with a fuse", a.name)
		}
		want(t, "the next one", y.Append("q", nil), api.ErrCrash)
	}
}

func TestALaterFuseCounts(t *testing.T) {
	d := acted()
	d.Fuse(1)
	d.Fuse(3)
	for range 3 {
		want(t, "Sync", d.Sync("a"), api.OK)
	}
	want(t, "Sync", d.Sync("a"), api.ErrCrash)
	d = acted()
	d.Fuse(9)
	d.Crash(9)
	d.Fuse(0)
	want(t, "Sync", d.Sync("a"), api.ErrCrash)
	d = acted()
	d.Fuse(0)
	d.Crash(9)
	want(t, "a fuse before a crash", d.Sync("a"), api.OK)
}

func TestAFuseKeepsWhatIsNotSynced(t *testing.T) {
	d := disk.New(10)
	d.Append("a", []byte("12"))
	d.Fuse(0)
	want(t, "Sync", d.Sync("a"), api.ErrCrash)
	d.Crash(1)
	has(t, d, "a", "1")
}

func TestQueriesOfADeadDisk(t *testing.T) {
	d := acted()
	d.Fuse(0)
	d.Sync("a")
	has(t, d, "a", "12", "b", "345")
	if d.Room() != 5 || !d.Clone().Dead() {
		t.Error("a dead disk has other files")
	}
}

// equal reports whether two disks have the same files, now and behind crashes.
func equal(x, y *disk.Disk) bool {
	for _, keep := range []int{99, 1, 0} {
		a, b := x.Clone(), y.Clone()
		if keep < 99 {
			a.Crash(keep)
			b.Crash(keep)
		}
		if !slices.Equal(a.List(""), b.List("")) || a.Used() != b.Used() || a.Room() != b.Room() {
			return false
		}
		for _, p := range a.List("") {
			l, _ := a.Read(p)
			r, _ := b.Read(p)
			if !bytes.Equal(l, r) {
				return false
			}
		}
	}
	return true
}

func TestClone(t *testing.T) {
	d := acted()
	d.Sync("a")
	d.Append("a", []byte("3"))
	d.Fuse(2)
	x := d.Clone()
	if !equal(d, x) {
		t.Error("a clone has another state")
	}
	want(t, "Append", x.Append("a", []byte("4")), api.OK)
	want(t, "Rename", x.Rename("b", "c"), api.OK)
	want(t, "the clone's fuse", x.Sync("a"), api.ErrCrash)
	has(t, d, "a", "123", "b", "345")
	want(t, "Append", d.Append("a", []byte("56")), api.OK)
	has(t, d, "a", "12356", "b", "345")
	has(t, x, "a", "1234", "c", "345")
	if d.Dead() || !x.Dead() {
		t.Error("the two are not independent")
	}
	d.Crash(0)
	has(t, d, "a", "12")
	has(t, x, "a", "1234", "c", "345")
	x.Crash(1)
	has(t, x, "a", "123", "c", "345")
}

func TestMemory(t *testing.T) {
	d := disk.New(20)
	b := []byte("1234")
	d.Append("a", b[:2])
	b[0] = 'x'
	d.Append("a", []byte("56"))
	if string(b) != "x234" {
		t.Error("the argument was changed")
	}
	has(t, d, "a", "1256")
	got, _ := d.Read("a")
	got[0] = 'y'
	_ = append(got[:1], 'z')
	has(t, d, "a", "1256")
	d.List("")[0] = "q"
	has(t, d, "a", "1256")
	got, _ = d.Read("a")
	d.Cut("a", 1)
	d.Append("a", []byte("9"))
	if string(got) != "1256" {
		t.Error("a result was changed by an act")
	}
}

// model is a disk of single bytes.
type model struct {
	quota int
	files map[string]*plain
	fuse  int // -1: none
	dead  bool
}

type plain struct {
	b      []byte
	synced []bool
	firm   bool
}

func (m *model) used() int {
	n := 0
	for _, f := range m.files {
		n += len(f.b)
	}
	return n
}

func (m *model) do(kind int, p, q string, n int) api.Errno {
	f := m.files[p]
	switch {
	case m.dead:
		return api.ErrCrash
	case p == "" || kind == 2 && q == "":
		return api.ErrArg
	case kind == 0 && m.used()+n > m.quota:
		return api.ErrFull
	case kind > 0 && f == nil:
		return api.ErrNone
	case kind == 3 && (n < 0 || n > len(f.b)):
		return api.ErrArg
	case m.fuse == 0:
		m.dead = true
		return api.ErrCrash
	case m.fuse > 0:
		m.fuse--
	}
	switch kind {
	case 0:
		if f == nil {
			f = &plain{}
			m.files[p] = f
		}
		for range n {
			f.b, f.synced = append(f.b, byte('0'+n)), append(f.synced, false)
		}
	case 1:
		f.sync()
	case 2:
		delete(m.files, p)
		m.files[q] = f
		f.sync()
	case 3:
		f.b, f.synced = f.b[:n], f.synced[:n]
		f.sync()
	case 4:
		delete(m.files, p)
	}
	return api.OK
}

func (f *plain) sync() {
	f.firm = true
	for i := range f.synced {
		f.synced[i] = true
	}
}

func (m *model) crash(keep int) {
	for p, f := range m.files {
		x := &plain{firm: f.firm}
		left := keep
		for i, c := range f.b {
			if !f.synced[i] {
				left--
			}
			if f.synced[i] || left >= 0 {
				x.b, x.synced = append(x.b, c), append(x.synced, true)
			}
		}
		m.files[p] = x
		if len(x.b) == 0 && !x.firm {
			delete(m.files, p)
		}
	}
	m.dead, m.fuse = false, -1
}

func TestManyActsAgainstAModel(t *testing.T) {
	seed := uint32(1)
	draw := func(n int) int {
		seed = seed*1664525 + 1013904223
		return int(seed>>8) % n
	}
	paths := []string{"a", "b", "c", "a/b", "d", ""}
	for round := range 300 {
		quota := draw(40)
		d, m := disk.New(quota), &model{quota: quota, files: map[string]*plain{}, fuse: -1}
		for range 60 {
			kind, p, q, n := draw(8), paths[draw(6)], paths[draw(6)], draw(7)
			var got, err api.Errno
			switch kind {
			case 0, 1, 2, 3, 4:
				if kind == 3 {
					n -= 2
				}
				err = m.do(kind, p, q, n)
				got = [](func() api.Errno){
					func() api.Errno { return d.Append(p, bytes.Repeat([]byte{byte('0' + n)}, max(n, 0))) },
					func() api.Errno { return d.Sync(p) },
					func() api.Errno { return d.Rename(p, q) },
					func() api.Errno { return d.Cut(p, n) },
					func() api.Errno { return d.Remove(p) },
				}[kind]()
			case 5:
				d.Crash(n)
				m.crash(n)
			case 6:
				if draw(3) == 0 {
					d.Fuse(n)
					m.fuse = n
				}
			default:
				d = d.Clone()
			}
			want(t, fmt.Sprintf("round %d, kind %d of %q, %q, %d", round, kind, p, q, n), got, err)
			if d.Dead() != m.dead || d.Used() != m.used() || d.Room() != quota-m.used() || len(d.List("")) != len(m.files) {
				t.Fatalf("round %d: dead %v, used %d, files %q", round, d.Dead(), d.Used(), d.List(""))
			}
			for p, f := range m.files {
				if b, there := d.Read(p); !there || !bytes.Equal(b, f.b) {
					t.Fatalf("round %d: %q has %q, not %q", round, p, b, f.b)
				}
			}
		}
	}
}
