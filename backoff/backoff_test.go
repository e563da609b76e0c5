package backoff_test

import (
	"math"
	"testing"

	"hostler/api"
	"hostler/backoff"
)

const top = api.MaxTicks

func TestNext(t *testing.T) {
	for _, r := range []struct{ delay, most, want int }{
		{1, 100, 2}, {2, 100, 4}, {3, 100, 6}, {50, 100, 100}, {51, 100, 100}, {49, 100, 98}, {100, 100, 100}, {200, 100, 100},
		{1, 1, 1}, {1, 2, 2}, {5, 1, 1}, {5, 0, 1}, {5, -1, 1}, {5, math.MinInt, 1},
		{0, 100, 2}, {-1, 100, 2}, {math.MinInt, 100, 2},
		{top, top, top}, {top / 2, top, top}, {top/2 - 1, top, top - 2}, {top, 7, 7}, {top + 1, top + 1, top},
		{math.MaxInt, math.MaxInt, top}, {3, math.MaxInt, 6}, {math.MaxInt, 9, 9},
	} {
		if got := backoff.Next(r.delay, r.most); got != r.want {
			t.Errorf("%d, %d: %d", r.delay, r.most, got)
		}
	}
}

func TestJitter(t *testing.T) {
	for _, r := range []struct{ delay, draw, want int }{
		{1, 0, 0}, {1, 1, 0}, {1, 99, 0}, {2, 0, 0}, {2, 1, 1}, {2, 2, 0}, {2, 3, 1}, {3, 1, 1}, {3, 2, 0},
		{4, 1, 1}, {4, 2, 2}, {4, 3, 0}, {5, 2, 2}, {5, 3, 0}, {10, 5, 5}, {10, 6, 0}, {10, 17, 5},
		{10, -1, 0}, {10, math.MinInt, 0}, {0, 5, 0}, {-3, 5, 0}, {math.MinInt, 5, 0},
		{top, top / 2, top / 2}, {top, top/2 + 1, 0}, {top + 2, top/2 + 1, 0}, {math.MaxInt, top/2 + 1, 0}, {math.MaxInt, 5, 5},
		{2, math.MaxInt, 1}, {4, math.MaxInt, math.MaxInt % 3},
	} {
		if got := backoff.Jitter(r.delay, r.draw); got != r.want {
			t.Errorf("%d, %d: %d", r.delay, r.draw, got)
		}
	}
}

func TestDue(t *testing.T) {
	for _, r := range []struct{ now, delay, draw, want int }{
		{10, 4, 1, 13}, {10, 4, 0, 14}, {10, 4, 2, 12}, {10, 4, 3, 14}, {0, 1, 0, 1}, {0, 1, 5, 1}, {0, 2, 1, 1}, {5, 2, 1, 6},
		{-1, 4, 0, 4}, {math.MinInt, 4, 1, 3}, {7, 0, 0, 8}, {7, -5, 9, 8}, {7, 4, -1, 11},
		{top, 4, 0, top + 4}, {top + 1, 4, 0, top + 4}, {math.MaxInt, 4, 0, top + 4},
		{top, top, 0, 2 * top}, {math.MaxInt, math.MaxInt, 0, 2 * top}, {math.MaxInt, math.MaxInt, math.MinInt, 2 * top}, {3, math.MaxInt, top / 2, 3 + top/2},
	} {
		if got := backoff.Due(r.now, r.delay, r.draw); got != r.want {
			t.Errorf("%d, %d, %d: %d", r.now, r.delay, r.draw, got)
		}
	}
}

func TestDueIsLaterThanNow(t *testing.T) {
	for now := range 5 {
		for delay := -1; delay < 20; delay++ {
			for draw := -1; draw < 30; draw++ {
				d := max(delay, 1)
				got, want := backoff.Due(now, delay, draw), now+d-max(draw, 0)%(1+d/2)
				if got != want || got <= now {
					t.Errorf("%d, %d, %d: %d", now, delay, draw, got)
				}
			}
		}
	}
}
