package record_test

import (
	"bytes"
	"slices"
	"testing"

	"hostler/api"
	"hostler/disk"
	"hostler/record"
)

// text returns n bytes.
func text(n int) []byte {
	b := make([]byte, n)
	for i := range b {
		b[i] = byte(i + n)
	}
	return b
}

// same reports whether two lists of records are equal.
func same(a, b [][]byte) bool {
	return slices.EqualFunc(a, b, bytes.Equal)
}

func TestPack(t *testing.T) {
	for _, n := range []int{0, 1, 2, 127, 128, 165, 199, 200} {
		want := append([]byte{byte(n)}, text(n)...)
		want = append(want, 0xA5)
		if got := record.Pack(text(n)); !bytes.Equal(got, want) {
			t.Errorf("length %d: % x", n, got)
		}
	}
	for _, n := range []int{201, 255, 256, 257, 1000} {
		if got := record.Pack(text(n)); len(got) != 0 {
			t.Errorf("length %d: % x", n, got)
		}
	}
}

func TestPackMemory(t *testing.T) {
	b := []byte("1234")
	got := record.Pack(b[:2])
	if string(b) != "1234" {
		t.Error("the argument was changed")
	}
	b[0] = 'x'
	if string(got) != "\x0212\xa5" {
		t.Errorf("%q", got)
	}
}

func TestScan(t *testing.T) {
	for _, r := range []struct {
		b     string
		l     []string
		whole int
	}{
		{"", nil, 0},
		{"\x00\xa5", []string{""}, 2},
		{"\x01a\xa5", []string{"a"}, 3},
		{"\x01a\xa5\x00\xa5\x02bc\xa5", []string{"a", "", "bc"}, 9},
		{"\x01\xa5\xa5", []string{"\xa5"}, 3},
		{"\x01", nil, 0},
		{"\x01a", nil, 0},
		{"\x00", nil, 0},
		{"\x00\xa4", nil, 0},
		{"\x01ab", nil, 0},
		{"\x01a\xa5\x02b", []string{"a"}, 3},
		{"\x01a\xa5\x02bc", []string{"a"}, 3},
		{"\x01a\xa5\x02bcd", []string{"a"}, 3},
		{"\x01a\xa5\x02bcd\x01e\xa5", []string{"a"}, 3},
		{"\x01a\xa5\xa5", []string{"a"}, 3},
		{"\xa5", nil, 0},
		{"\x05ab\xa5\xa5", nil, 0},
	} {
		l, whole := record.Scan([]byte(r.b))
		var got []string
		for _, x := range l {
			got = append(got, string(x))
		}
		if !slices.Equal(got, r.l) || whole != r.whole {
			t.Errorf("%q: %q, %d", r.b, got, whole)
		}
	}
}

func TestScanOfLongRecords(t *testing.T) {
	for n := 190; n < 256; n++ {
		b := append([]byte{0, 0xa5, byte(n)}, text(n)...)
		b = append(b, 0xa5)
		l, whole := record.Scan(b)
		if n <= 200 && (whole != n+4 || !same(l, [][]byte{{}, text(n)})) || n > 200 && (whole != 2 || !same(l, [][]byte{{}})) {
			t.Errorf("length %d: %d records, %d bytes", n, len(l), whole)
		}
	}
}

func TestScanOfPieces(t *testing.T) {
	var b []byte
	var ends []int
	var l [][]byte
	for n := range 20 {
		l = append(l, text(n*n%201))
		b = append(b, record.Pack(l[n])...)
		ends = append(ends, len(b))
	}
	for n := range len(b) + 1 {
		complete := 0
		for complete < len(ends) && ends[complete] <= n {
			complete++
		}
		want := 0
		if complete > 0 {
			want = ends[complete-1]
		}
		if got, whole := record.Scan(b[:n]); whole != want || !same(got, l[:complete]) {
			t.Errorf("of %d bytes: %d records, %d bytes", n, len(got), whole)
		}
	}
}

func TestScanOfManyRecords(t *testing.T) {
	b := bytes.Repeat([]byte("\x01a\xa5"), 200000)
	if l, whole := record.Scan(b); len(l) != 200000 || whole != len(b) {
		t.Error(len(l), whole)
	}
}

func TestScanMemory(t *testing.T) {
	b := []byte("\x02ab\xa5\x01c\xa5")
	l, _ := record.Scan(b)
	l[0][0] = 'x'
	_ = append(l[0], 'y')
	if string(b) != "\x02ab\xa5\x01c\xa5" {
		t.Error("a result shares memory with the argument")
	}
	b[1], b[5] = 'q', 'q'
	if string(l[0]) != "xb" || string(l[1]) != "c" {
		t.Error("a result shares memory with the argument")
	}
}

func TestAddAndLoad(t *testing.T) {
	d := disk.New(1000)
	if l, err := record.Load(d, "p"); len(l) != 0 || err != api.OK {
		t.Error(l, err)
	}
	if l := d.List(""); len(l) != 0 {
		t.Error("loading has made a file")
	}
	var want [][]byte
	for _, n := range []int{3, 0, 200, 1} {
		if err := record.Add(d, "p", text(n)); err != api.OK {
			t.Error(err)
		}
		want = append(want, text(n))
		if l, err := record.Load(d, "p"); err != api.OK || !same(l, want) {
			t.Error(l, err)
		}
		d.Crash(0)
		if l, err := record.Load(d, "p"); err != api.OK || !same(l, want) {
			t.Error("behind a crash:", l, err)
		}
	}
	if d.Used() != 3+0+200+1+8 {
		t.Error(d.Used())
	}
}

func TestErrorsOfAdd(t *testing.T) {
	d := disk.New(10)
	if err := record.Add(d, "p", text(201)); err != api.ErrArg {
		t.Error(err)
	}
	if err := record.Add(d, "", text(1)); err != api.ErrArg {
		t.Error(err)
	}
	if err := record.Add(d, "p", text(9)); err != api.ErrFull {
		t.Error(err)
	}
	if l := d.List(""); len(l) != 0 {
		t.Errorf("%q are there", l)
	}
	if err := record.Add(d, "p", text(8)); err != api.OK {
		t.Error(err)
	}
	d.Fuse(0)
	if err := record.Add(d, "p", text(1)); err != api.ErrFull {
		t.Error(err)
	}
	if err := record.Add(d, "q", text(201)); err != api.ErrArg {
		t.Error(err)
	}
	d.Remove("p")
	if err := record.Add(d, "p", text(201)); err != api.ErrArg {
		t.Error("on a dead disk:", err)
	}
	if err := record.Add(d, "p", text(99)); err != api.ErrCrash {
		t.Error("on a dead disk:", err)
	}
}

func TestAddDoesTwoActs(t *testing.T) {
	for n := range 4 {
		d := disk.New(100)
		d.Fuse(n)
		err := record.Add(d, "p", text(3))
		if n < 2 != (err == api.ErrCrash) {
			t.Errorf("fuse %d: %d", n, err)
		}
		if n == 2 && d.Sync("p") != api.ErrCrash {
			t.Error("there were fewer than two acts")
		}
		if n == 3 && (d.Sync("p") != api.OK || d.Sync("p") != api.ErrCrash) {
			t.Error("there were not two acts")
		}
	}
}

func TestLoadCutsWhatFollows(t *testing.T) {
	for _, rest := range []string{"\x02a", "\x00\x00", "\xff\xa5", "\x01ab\x00\xa5"} {
		d := disk.New(100)
		record.Add(d, "p", []byte("12"))
		d.Append("p", []byte(rest))
		x := d.Clone()
		x.Fuse(0)
		if l, err := record.Load(x, "p"); err != api.ErrCrash || len(l) != 0 {
			t.Errorf("%q: %q, %d", rest, l, err)
		}
		d.Fuse(1)
		if l, err := record.Load(d, "p"); err != api.OK || !same(l, [][]byte{[]byte("12")}) {
			t.Errorf("%q: %q, %d", rest, l, err)
		}
		if b, _ := d.Read("p"); string(b) != "\x0212\xa5" {
			t.Errorf("%q is left", b)
		}
		if err := d.Sync("p"); err != api.ErrCrash {
			t.Error("cutting is not one act")
		}
		d.Crash(0)
		d.Fuse(0)
		if l, err := record.Load(d, "p"); err != api.OK || len(l) != 1 || d.Dead() {
			t.Error("nothing is to be cut, but:", l, err)
		}
	}
}

func TestCrashes(t *testing.T) {
	for fuse := range 12 {
		for keep := range 12 {
			d := disk.New(1000)
			d.Fuse(fuse)
			var tried [][]byte
			done := 0
			for n := range 5 {
				tried = append(tried, text(n+1))
				if record.Add(d, "p", text(n+1)) != api.OK {
					break
				}
				done++
			}
			d.Crash(keep)
			l, err := record.Load(d, "p")
			if err != api.OK || len(l) < done || len(l) > done+1 || !same(l, tried[:len(l)]) {
				t.Errorf("fuse %d, kept %d: %d done, %q, %d", fuse, keep, done, l, err)
			}
			record.Add(d, "p", []byte("more"))
			again, err := record.Load(d, "p")
			if err != api.OK || len(again) != len(l)+1 || string(again[len(l)]) != "more" || !same(again[:len(l)], l) {
				t.Errorf("fuse %d, kept %d: then %q, %d", fuse, keep, again, err)
			}
		}
	}
}
