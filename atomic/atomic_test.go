package atomic_test

import (
	"bytes"
	"slices"
	"testing"

	"hostler/api"
	"hostler/atomic"
	"hostler/disk"
	"hostler/path"
)

// has checks that the disk has exactly these files, path by path.
func has(t *testing.T, d *disk.Disk, files ...string) {
	t.Helper()
	var paths []string
	for i := 0; i < len(files); i += 2 {
		paths = append(paths, files[i])
		if b, there := d.Read(files[i]); !there || string(b) != files[i+1] {
			t.Errorf("%q has %q, %v", files[i], b, there)
		}
	}
	if got := d.List(""); !slices.Equal(got, paths) {
		t.Errorf("the files are %q", got)
	}
}

func TestWrite(t *testing.T) {
	d := disk.New(100)
	for _, s := range []string{"123", "", "4567"} {
		if err := atomic.Write(d, "p", []byte(s)); err != api.OK {
			t.Error(err)
		}
		has(t, d, "p", s)
	}
	d.Crash(0)
	has(t, d, "p", "4567")
	if err := atomic.Write(d, "q", nil); err != api.OK {
		t.Error(err)
	}
	d.Crash(0)
	has(t, d, "p", "4567", "q", "")
}

func TestWriteLeavesItsArgumentAlone(t *testing.T) {
	d := disk.New(100)
	b := []byte("1234")
	atomic.Write(d, "p", b[:2])
	if string(b) != "1234" {
		t.Error("the argument was changed")
	}
	b[0] = 'x'
	has(t, d, "p", "12")
}

func TestWriteWithoutRoom(t *testing.T) {
	d := disk.New(10)
	atomic.Write(d, "p", []byte("123456"))
	d.Fuse(3)
	if err := atomic.Write(d, "p", []byte("12345")); err != api.ErrFull {
		t.Error("the old and the new bytes are there together, but:", err)
	}
	has(t, d, "p", "123456")
	if err := atomic.Write(d, "p", []byte("7890")); err != api.OK {
		t.Error("three acts:", err)
	}
	has(t, d, "p", "7890")
	if err := d.Sync("p"); err != api.ErrCrash {
		t.Error("a fourth act:", err)
	}
}

func TestWriteDoesThreeActs(t *testing.T) {
	for n, temp := range []string{"", "", "12"} {
		for keep := range 4 {
			d := disk.New(100)
			d.Fuse(n)
			if err := atomic.Write(d, "p", []byte("12")); err != api.ErrCrash {
				t.Errorf("fuse %d: %d", n, err)
			}
			if _, there := d.Read("p"); there {
				t.Errorf("fuse %d: the file is there", n)
			}
			d.Crash(keep)
			switch {
			case n == 1 && keep > 0:
				has(t, d, path.Temp("p"), "12"[:min(keep, 2)])
			case n == 2:
				has(t, d, path.Temp("p"), temp)
			default:
				has(t, d)
			}
		}
	}
	d := disk.New(100)
	d.Fuse(3)
	if err := atomic.Write(d, "p", []byte("12")); err != api.OK {
		t.Error(err)
	}
	if err := d.Sync("p"); err != api.ErrCrash {
		t.Error("there were fewer than three acts")
	}
}

func TestWriteOnADeadDisk(t *testing.T) {
	d := disk.New(10)
	d.Fuse(0)
	d.Append("x", nil)
	if err := atomic.Write(d, "p", make([]byte, 99)); err != api.ErrCrash {
		t.Error(err)
	}
}

func TestCrashDuringWrite(t *testing.T) {
	for _, old := range []string{"", "old"} {
		for _, b := range []string{"", "1", "a longer text"} {
			for n := range 6 {
				for keep := range 16 {
					d := disk.New(100)
					if old != "" {
						atomic.Write(d, "p", []byte(old))
					}
					d.Fuse(n)
					err := atomic.Write(d, "p", []byte(b))
					if (err == api.OK) != (n >= 3) {
						t.Errorf("fuse %d: %d", n, err)
					}
					d.Crash(keep)
					got, there := d.Read("p")
					before := there == (old != "") && string(got) == old
					after := there && string(got) == b
					if err == api.OK && !after || err != api.OK && !before {
						t.Errorf("fuse %d, kept %d: %q, %v", n, keep, got, there)
					}
					if err := atomic.Clean(d); err != api.OK {
						t.Error(err)
					}
					if l := d.List(""); len(l) > 1 || len(l) == 1 && l[0] != "p" {
						t.Errorf("fuse %d, kept %d: %q are left", n, keep, l)
					}
				}
			}
		}
	}
}

// filled returns a disk with some files.
func filled() *disk.Disk {
	d := disk.New(100)
	for _, p := range []string{"b~", "a", "c~", "a~", "~", "~x", "d~e", "log/f/t~"} {
		d.Append(p, []byte("1"))
	}
	return d
}

func TestClean(t *testing.T) {
	d := filled()
	if err := atomic.Clean(d); err != api.OK {
		t.Error(err)
	}
	has(t, d, "a", "1", "d~e", "1", "~x", "1")
	d.Fuse(0)
	if err := atomic.Clean(d); err != api.OK {
		t.Error("nothing is to be done, but:", err)
	}
	has(t, d, "a", "1", "d~e", "1", "~x", "1")
}

func TestCleanAscends(t *testing.T) {
	order := []string{"a~", "b~", "c~", "log/f/t~", "~"}
	for n := range order {
		d := filled()
		d.Fuse(n)
		if err := atomic.Clean(d); err != api.ErrCrash {
			t.Errorf("fuse %d: %d", n, err)
		}
		var left []string
		for _, p := range d.List("") {
			if path.IsTemp(p) {
				left = append(left, p)
			}
		}
		if !slices.Equal(left, order[n:]) {
			t.Errorf("fuse %d: %q are left", n, left)
		}
	}
	d := filled()
	d.Fuse(len(order))
	if err := atomic.Clean(d); err != api.OK {
		t.Error(err)
	}
}

func TestCleanOfADeadDisk(t *testing.T) {
	d := filled()
	d.Fuse(0)
	d.Sync("a")
	if err := atomic.Clean(d); err != api.ErrCrash {
		t.Error(err)
	}
	if b, _ := d.Read("b~"); !bytes.Equal(b, []byte("1")) {
		t.Error("a file was removed")
	}
}
