package bin_test

import (
	"fmt"
	"math"
	"slices"
	"testing"

	"hostler/bin"
)

func box(f, e string, n, since int) bin.Box {
	return bin.Box{F: f, E: e, N: n, Since: since}
}

func is(t *testing.T, what string, got []bin.Box, want ...bin.Box) {
	t.Helper()
	if !slices.Equal(got, want) {
		t.Errorf("%s: %v, not %v", what, got, want)
	}
}

func TestANewBin(t *testing.T) {
	b := bin.New()
	is(t, "All", b.All())
	is(t, "Due", b.Due(99, 0))
	if b.Take("f", "e", 1) {
		t.Error("something is in it")
	}
}

func TestAddAndTake(t *testing.T) {
	b := bin.New()
	for _, x := range []bin.Box{box("f", "e", 1, 5), box("f", "e", 2, 5), box("f", "x", 1, 3), box("g", "e", 1, 5), box("f", "e", 3, 4)} {
		if !b.Add(x.F, x.E, x.N, x.Since) {
			t.Errorf("%v is in the bin", x)
		}
		if b.Add(x.F, x.E, x.N, x.Since) || b.Add(x.F, x.E, x.N, 1) || b.Add(x.F, x.E, x.N, 99) {
			t.Errorf("%v is not in the bin", x)
		}
	}
	is(t, "All", b.All(), box("f", "x", 1, 3), box("f", "e", 3, 4), box("f", "e", 1, 5), box("f", "e", 2, 5), box("g", "e", 1, 5))
	for _, x := range []bin.Box{box("f", "e", 4, 0), box("f", "y", 1, 0), box("z", "e", 1, 0), box("", "", 0, 0)} {
		if b.Take(x.F, x.E, x.N) {
			t.Errorf("%v was in the bin", x)
		}
	}
	if !b.Take("f", "e", 1) || b.Take("f", "e", 1) {
		t.Error("it is not taken once")
	}
	is(t, "All", b.All(), box("f", "x", 1, 3), box("f", "e", 3, 4), box("f", "e", 2, 5), box("g", "e", 1, 5))
	if !b.Add("f", "e", 1, 5) {
		t.Error("what was taken is in the bin")
	}
	is(t, "All", b.All(), box("f", "x", 1, 3), box("f", "e", 3, 4), box("f", "e", 2, 5), box("g", "e", 1, 5), box("f", "e", 1, 5))
}

func TestOrder(t *testing.T) {
	b := bin.New()
	var want []bin.Box
	for n := range 200 {
		since := n * 7 % 5
		b.Add("f", fmt.Sprint(n), n, since)
		want = append(want, box("f", fmt.Sprint(n), n, since))
	}
	slices.SortStableFunc(want, func(x, y bin.Box) int { return x.Since - y.Since })
	is(t, "All", b.All(), want...)
	is(t, "Due", b.Due(10, 8), want[:120]...)
}

func TestDue(t *testing.T) {
	b := bin.New()
	x, y, z := box("f", "x", 1, 0), box("f", "y", 1, 3), box("f", "z", 1, 3)
	late := box("f", "v", 1, 10)
	for _, x := range []bin.Box{late, x, y, z} {
		b.Add(x.F, x.E, x.N, x.Since)
	}
	is(t, "before all", b.Due(7, 8))
	is(t, "at the first", b.Due(8, 8), x)
	is(t, "behind the first", b.Due(10, 8), x)
	is(t, "at the next", b.Due(11, 8), x, y, z)
	is(t, "before the last", b.Due(17, 8), x, y, z)
	is(t, "at the last", b.Due(18, 8), x, y, z, late)
	is(t, "without a delay", b.Due(3, 0), x, y, z)
	is(t, "without a delay", b.Due(2, 0), x)
	is(t, "before the first tick", b.Due(-1, 0))
	is(t, "a negative delay", b.Due(0, -3), x, y, z)
	is(t, "nothing is taken", b.All(), x, y, z, late)
}

func TestDueWithoutBounds(t *testing.T) {
	b := bin.New()
	x := box("f", "x", 1, 5)
	b.Add(x.F, x.E, x.N, x.Since)
	is(t, "far ahead", b.Due(math.MinInt, math.MaxInt))
	is(t, "far ahead", b.Due(math.MinInt, 1))
	is(t, "far ahead", b.Due(-5, math.MaxInt))
	is(t, "far behind", b.Due(math.MaxInt, math.MinInt), x)
	is(t, "far behind", b.Due(math.MaxInt, -1), x)
	is(t, "far behind", b.Due(0, math.MinInt), x)
	is(t, "far behind", b.Due(5, math.MinInt), x)
	is(t, "both", b.Due(math.MaxInt, math.MaxInt))
	is(t, "both", b.Due(math.MinInt, math.MinInt))
	is(t, "both", b.Due(math.MaxInt, math.MaxInt-5), x)
	is(t, "both", b.Due(math.MaxInt, math.MaxInt-4))
}

func TestClone(t *testing.T) {
	b := bin.New()
	b.Add("f", "e", 1, 1)
	b.Add("f", "e", 2, 2)
	x := b.Clone()
	is(t, "the clone", x.All(), b.All()...)
	x.Take("f", "e", 1)
	x.Add("f", "e", 3, 0)
	b.Add("f", "e", 4, 4)
	is(t, "the first one", b.All(), box("f", "e", 1, 1), box("f", "e", 2, 2), box("f", "e", 4, 4))
	is(t, "the clone", x.All(), box("f", "e", 3, 0), box("f", "e", 2, 2))
}

func TestMemory(t *testing.T) {
	b := bin.New()
	b.Add("f", "e", 1, 1)
	b.Add("f", "e", 2, 2)
	all, due := b.All(), b.Due(99, 0)
	all[0].F, due[1].F = "q", "q"
	_ = append(all[:1], box("w", "w", 1, 1))
	is(t, "the bin", b.All(), box("f", "e", 1, 1), box("f", "e", 2, 2))
	all = b.All()
	b.Take("f", "e", 1)
	b.Add("f", "e", 3, 0)
	is(t, "a result", all, box("f", "e", 1, 1), box("f", "e", 2, 2))
}

func TestDelay(t *testing.T) {
	for _, r := range []struct{ keep, used, quota, want int }{
		{8, 60, 100, 4}, {8, 0, 100, 8}, {8, 50, 100, 8}, {8, 51, 100, 4}, {8, 75, 100, 4}, {8, 76, 100, 0}, {8, 100, 100, 0}, {8, 200, 100, 0},
		{7, 60, 100, 3}, {1, 60, 100, 0}, {1, 50, 100, 1}, {1, 80, 100, 0},
		{0, 0, 100, 0}, {-3, 0, 100, 0}, {math.MinInt, 0, 100, 0}, {8, 0, 0, 0}, {8, 0, -1, 0}, {8, -5, -1, 0}, {8, -5, 100, 8}, {8, math.MinInt, 100, 8},
		{8, 0, 1, 8}, {8, 1, 1, 0}, {8, 1, 2, 8}, {8, 2, 2, 0}, {8, 1, 3, 8}, {8, 2, 3, 4}, {8, 3, 3, 0},
		{8, 2, 5, 8}, {8, 3, 5, 4}, {8, 4, 5, 0}, {8, 3, 6, 8}, {8, 4, 6, 4}, {8, 5, 6, 0}, {8, 3, 7, 8}, {8, 5, 7, 4}, {8, 6, 7, 0},
		{math.MaxInt, math.MaxInt, math.MaxInt, 0}, {9, math.MaxInt / 2, math.MaxInt, 9}, {9, math.MaxInt/2 + 1, math.MaxInt, 4},
		{9, math.MaxInt / 4 * 3, math.MaxInt, 4}, {9, math.MaxInt/4*3 + 2, math.MaxInt, 4}, {9, math.MaxInt/4*3 + 3, math.MaxInt, 0}, {math.MaxInt, 0, 1, math.MaxInt},
	} {
		if got := bin.Delay(r.keep, r.used, r.quota); got != r.want {
			t.Errorf("%d, %d, %d: %d", r.keep, r.used, r.quota, got)
		}
	}
	for quota := 1; quota < 40; quota++ {
		for used := range quota + 2 {
			want := 0
			if 2*used <= quota {
				want = 9
			} else if 4*used <= 3*quota {
				want = 4
			}
			if got := bin.Delay(9, used, quota); got != want {
				t.Errorf("%d of %d: %d", used, quota, got)
			}
		}
	}
}
