package need_test

import (
	"math"
	"slices"
	"testing"

	"hostler/api"
	"hostler/need"
)

var minus0 = math.Copysign(0, -1)

// odd are parts of numbers that no need and no room has.
var odd = []float64{math.NaN(), math.Inf(1), math.Inf(-1), -1, -0.5, 0.5, 1.5, 999.5, 1e-300, 1e300, -1e300, math.MaxFloat64, 1 << 62, 1 << 63, 1 << 64}

func TestRight(t *testing.T) {
	for _, r := range []struct {
		z    complex128
		want bool
	}{
		{0, false},
		{complex(minus0, 0), false},
		{complex(0, minus0), false},
		{complex(minus0, minus0), false},
		{1, true},
		{1i, true},
		{2 + 3i, true},
		{complex(minus0, 1), true},
		{complex(1, minus0), true},
		{api.MaxNeed, true},
		{api.MaxNeed * 1i, true},
		{api.MaxNeed + api.MaxNeed*1i, true},
		{api.MaxNeed + 1, false},
		{(api.MaxNeed + 1) * 1i, false},
		{1 + (api.MaxNeed+1)*1i, false},
		{api.MaxNeed + 1 + 1i, false},
		{-1, false},
		{-1i, false},
		{1 - 1i, false},
		{-1 + 1i, false},
	} {
		if got := need.Right(r.z); got != r.want {
			t.Errorf("%v: %v", r.z, got)
		}
	}
}

func TestRoom(t *testing.T) {
	for _, r := range []struct {
		z    complex128
		want bool
	}{
		{0, true},
		{complex(minus0, minus0), true},
		{1, true},
		{1i, true},
		{api.MaxNeed + 1, true},
		{api.MaxRoom + api.MaxRoom*1i, true},
		{api.MaxRoom + 1, false},
		{(api.MaxRoom + 1) * 1i, false},
		{-1, false},
		{-1i, false},
	} {
		if got := need.Room(r.z); got != r.want {
			t.Errorf("%v: %v", r.z, got)
		}
	}
}

func TestOddPartsAreNoIntegers(t *testing.T) {
	for _, x := range odd {
		for _, z := range []complex128{complex(x, 1), complex(1, x), complex(x, x), complex(x, 0), complex(0, x)} {
			if need.Right(z) || need.Room(z) {
				t.Errorf("%v is a need %v, a room %v", z, need.Right(z), need.Room(z))
			}
			if c, m := need.Parts(z); c != 0 || m != 0 {
				t.Errorf("%v has the parts %d, %d", z, c, m)
			}
		}
	}
}

func TestParts(t *testing.T) {
	for _, r := range []struct {
		z         complex128
		cpus, mem int
	}{
		{0, 0, 0},
		{complex(minus0, minus0), 0, 0},
		{2 + 3i, 2, 3},
		{7, 7, 0},
		{7i, 0, 7},
		{api.MaxRoom + 1i, api.MaxRoom, 1},
		{1 + api.MaxRoom*1i, 1, api.MaxRoom},
		{api.MaxRoom + 1 + 5i, 0, 0},
		{5 + (api.MaxRoom+1)*1i, 0, 0},
		{-1 + 5i, 0, 0},
		{5 - 1i, 0, 0},
	} {
		if c, m := need.Parts(r.z); c != r.cpus || m != r.mem {
			t.Errorf("%v: %d, %d", r.z, c, m)
		}
	}
}

func TestOf(t *testing.T) {
	for _, r := range []struct {
		cpus, mem int
		want      complex128
	}{
		{2, 3, 2 + 3i},
		{0, 0, 0},
		{0, 1, 1i},
		{1, 0, 1},
		{api.MaxRoom, api.MaxRoom, api.MaxRoom + api.MaxRoom*1i},
		{api.MaxRoom + 1, 3, 0},
		{3, api.MaxRoom + 1, 0},
		{-1, 3, 0},
		{3, -1, 0},
		{math.MinInt, math.MaxInt, 0},
		{1, math.MaxInt, 0},
		{math.MaxInt, 1, 0},
		{1, math.MinInt, 0},
	} {
		if got := need.Of(r.cpus, r.mem); got != r.want {
			t.Errorf("%d, %d: %v", r.cpus, r.mem, got)
		}
	}
	for n := range 2000 {
		if c, m := need.Parts(need.Of(n, 3*n)); c != n || m != 3*n {
			t.Error(n, c, m)
		}
	}
}

func TestSum(t *testing.T) {
	for _, r := range []struct {
		l    []complex128
		want complex128
	}{
		{nil, 0},
		{[]complex128{2 + 3i}, 2 + 3i},
		{[]complex128{2 + 3i, 5, 7i}, 7 + 10i},
		{[]complex128{complex(minus0, minus0)}, 0},
		{slices.Repeat([]complex128{api.MaxRoom + 1i}, 1000), 1000*api.MaxRoom + 1000i},
		{slices.Repeat([]complex128{1 + api.MaxRoom*1i}, 1000), 1000 + 1000*api.MaxRoom*1i},
	} {
		before := slices.Clone(r.l)
		if got := need.Sum(r.l...); got != r.want {
			t.Errorf("%d of them: %v", len(r.l), got)
		}
		if !slices.Equal(r.l, before) {
			t.Error("the argument was changed")
		}
	}
}

func TestFits(t *testing.T) {
	for _, r := range []struct {
		need, room complex128
		want       bool
	}{
		{0, 0, true},
		{2 + 3i, 2 + 3i, true},
		{2 + 3i, 3 + 4i, true},
		{3 + 3i, 2 + 9i, false},
		{3 + 3i, 9 + 2i, false},
		{3 + 3i, 2 + 2i, false},
		{1, 0, false},
		{1i, 0, false},
		{0, 1 + 1i, true},
		{complex(0, 0), complex(minus0, minus0), true},
		{complex(minus0, minus0), 0, true},
		{5, 4 + 100i, false},
		{5i, 100 + 4i, false},
	} {
		if got := need.Fits(r.need, r.room); got != r.want {
			t.Errorf("%v in %v: %v", r.need, r.room, got)
		}
	}
}
