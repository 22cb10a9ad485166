package clock

import (
	"math"
	"math/big"
	"math/rand"
	"slices"
	"testing"

	"gatepath/api"
)

// edgeNumbers are numbers around the limits of times, skews and drifts, and around those of int64.
func edgeNumbers() []int64 {
	list := []int64{math.MinInt64, math.MinInt64 + 1, math.MaxInt64 - 1, math.MaxInt64}
	for _, n := range []int64{0, 500, api.MaxDrift, 500_000, million, api.MaxSkew, 1 << 32, api.MaxTime / 2, api.MaxTime, api.MaxTime + 1<<30, 1 << 62} {
		for _, d := range []int64{-2, -1, 0, 1, 2} {
			list = append(list, n+d, -n+d)
		}
	}
	slices.Sort(list)
	return slices.Compact(list)
}

// edgeTimes are the times of edgeNumbers.
func edgeTimes() []int64 {
	return slices.DeleteFunc(edgeNumbers(), func(t int64) bool { return t < 0 || t > api.MaxTime })
}

// clocks are valid clocks: all with skews and drifts at their limits and around 0, and some others.
func clocks() []api.Clock {
	var list []api.Clock
	for _, skew := range []int64{-api.MaxSkew, -api.MaxSkew + 1, -1000, -1, 0, 1, 1000, api.MaxSkew - 1, api.MaxSkew} {
		for _, drift := range []int64{-api.MaxDrift, -api.MaxDrift + 1, -500, -3, -1, 0, 1, 3, 500, api.MaxDrift - 1, api.MaxDrift} {
			list = append(list, api.Clock{Skew: skew, Drift: drift})
		}
	}
	r := rand.New(rand.NewSource(1))
	for range 100 {
		list = append(list, someClock(r))
	}
	return list
}

func someClock(r *rand.Rand) api.Clock {
	return api.Clock{Skew: r.Int63n(2*api.MaxSkew+1) - api.MaxSkew, Drift: r.Int63n(2*api.MaxDrift+1) - api.MaxDrift}
}

// wrongClocks are clocks that CheckClock refuses.
func wrongClocks() []api.Clock {
	return []api.Clock{
		{Skew: api.MaxSkew + 1},
		{Skew: -api.MaxSkew - 1},
		{Skew: math.MaxInt64},
		{Skew: math.MinInt64},
		{Skew: math.MinInt64 + 1},
		{Drift: api.MaxDrift + 1},
		{Drift: -api.MaxDrift - 1},
		{Drift: math.MaxInt64},
		{Drift: math.MinInt64},
		{Drift: math.MinInt64 + 1},
		{Drift: -million},
		{Skew: api.MaxSkew + 1, Drift: api.MaxDrift + 1},
		{Skew: -api.MaxSkew - 1, Drift: 5},
		{Skew: 5, Drift: -api.MaxDrift - 1},
	}
}

// wrongWindows are windows that Check refuses.
func wrongWindows() []api.Window {
	return []api.Window{
		{From: 1, To: 0},
		{From: 31, To: 30},
		{From: api.MaxTime, To: 0},
		{From: api.MaxTime, To: api.MaxTime - 1},
		{From: -1, To: 0},
		{From: -1, To: -1},
		{From: -2, To: -1},
		{From: 0, To: -1},
		{From: 0, To: api.MaxTime + 1},
		{From: -1, To: api.MaxTime + 1},
		{From: api.MaxTime + 1, To: api.MaxTime + 1},
		{From: api.MaxTime + 1, To: api.MaxTime},
		{From: math.MinInt64, To: 5},
		{From: math.MinInt64, To: math.MaxInt64},
		{From: 5, To: math.MaxInt64},
		{From: math.MaxInt64, To: math.MinInt64},
	}
}

// P4.1

func TestCheck(t *testing.T) {
	for _, w := range []api.Window{{}, {From: 0, To: 1}, {From: 7, To: 7}, {From: 10, To: 30}, {From: 0, To: api.MaxTime}, {From: api.MaxTime, To: api.MaxTime}} {
		if e := Check(w); e != api.OK {
			t.Error(w, e)
		}
	}
	for _, w := range wrongWindows() {
		if e := Check(w); e != api.ErrBad {
			t.Error(w, e)
		}
	}
}

func TestCheckOfAll(t *testing.T) {
	times := edgeTimes()
	for _, from := range edgeNumbers() {
		for _, to := range edgeNumbers() {
			want := api.ErrBad
			if slices.Contains(times, from) && slices.Contains(times, to) && from <= to {
				want = api.OK
			}
			if e := Check(api.Window{From: from, To: to}); e != want {
				t.Error(from, to, e)
			}
		}
	}
}

func TestIn(t *testing.T) {
	for _, c := range []struct {
		w  api.Window
		t  int64
		is bool
	}{
		{api.Window{From: 10, To: 30}, 9, false},
		{api.Window{From: 10, To: 30}, 10, true},
		{api.Window{From: 10, To: 30}, 20, true},
		{api.Window{From: 10, To: 30}, 30, true},
		{api.Window{From: 10, To: 30}, 31, false},
		{api.Window{From: 10, To: 30}, -20, false},
		{api.Window{From: 7, To: 7}, 6, false},
		{api.Window{From: 7, To: 7}, 7, true},
		{api.Window{From: 7, To: 7}, 8, false},
		{api.Window{}, 0, true},
		{api.Window{}, -1, false},
		{api.Window{}, 1, false},
		{api.Window{To: api.MaxTime}, 0, true},
		{api.Window{To: api.MaxTime}, api.MaxTime, true},
		{api.Window{To: api.MaxTime}, -1, false},
		{api.Window{To: api.MaxTime}, api.MaxTime + 1, false},
		{api.Window{To: api.MaxTime}, math.MinInt64, false},
		{api.Window{To: api.MaxTime}, math.MaxInt64, false},
	} {
		if In(c.w, c.t) != c.is {
			t.Error(c)
		}
	}
}

func TestInWrong(t *testing.T) {
	for _, w := range wrongWindows() {
		for _, n := range edgeNumbers() {
			if In(w, n) {
				t.Error(w, n)
			}
		}
	}
}

func TestBoth(t *testing.T) {
	for _, c := range []struct {
		a, b, w api.Window
		is      bool
	}{
		{api.Window{From: 10, To: 30}, api.Window{From: 20, To: 40}, api.Window{From: 20, To: 30}, true},
		{api.Window{From: 10, To: 30}, api.Window{From: 10, To: 30}, api.Window{From: 10, To: 30}, true},
		{api.Window{From: 10, To: 30}, api.Window{From: 15, To: 20}, api.Window{From: 15, To: 20}, true},
		{api.Window{From: 10, To: 30}, api.Window{From: 30, To: 40}, api.Window{From: 30, To: 30}, true},
		{api.Window{From: 10, To: 30}, api.Window{From: 31, To: 40}, api.Window{}, false},
		{api.Window{From: 10, To: 30}, api.Window{From: 35, To: 40}, api.Window{}, false},
		{api.Window{}, api.Window{From: 0, To: 9}, api.Window{}, true},
		{api.Window{}, api.Window{From: 1, To: 9}, api.Window{}, false},
		{api.Window{To: api.MaxTime}, api.Window{From: api.MaxTime, To: api.MaxTime}, api.Window{From: api.MaxTime, To: api.MaxTime}, true},
		{api.Window{To: api.MaxTime - 1}, api.Window{From: api.MaxTime, To: api.MaxTime}, api.Window{}, false},
	} {
		if w, is, e := Both(c.a, c.b); w != c.w || is != c.is || e != api.OK {
			t.Error(c, w, is, e)
		}
		if w, is, e := Both(c.b, c.a); w != c.w || is != c.is || e != api.OK {
			t.Error(c, "turned", w, is, e)
		}
	}
}

// smallWindows are all windows of the times from 0 to 6 and some that are not valid.
func smallWindows() []api.Window {
	var list []api.Window
	for from := int64(-1); from <= 6; from++ {
		for to := int64(-1); to <= 6; to++ {
			list = append(list, api.Window{From: from, To: to})
		}
	}
	return list
}

func TestBothHasTheTimesOfBoth(t *testing.T) {
	for _, a := range smallWindows() {
		for _, b := range smallWindows() {
			w, is, e := Both(a, b)
			if Check(a) != api.OK || Check(b) != api.OK {
				if w != (api.Window{}) || is || e != api.ErrBad {
					t.Error(a, b, w, is, e)
				}
				continue
			}
			some := false
			for n := int64(-2); n <= 8; n++ {
				in := In(a, n) && In(b, n)
				some = some || in
				if (is && In(w, n)) != in {
					t.Error(a, b, w, is, n)
				}
			}
			if is != some || !is && w != (api.Window{}) || e != api.OK {
				t.Error(a, b, w, is, e)
			}
		}
	}
}

func TestBothWrong(t *testing.T) {
	for _, bad := range wrongWindows() {
		for _, good := range []api.Window{{}, {From: 10, To: 30}, {To: api.MaxTime}} {
			for _, c := range [][2]api.Window{{bad, good}, {good, bad}, {bad, bad}} {
				if w, is, e := Both(c[0], c[1]); w != (api.Window{}) || is || e != api.ErrBad {
					t.Error(c, w, is, e)
				}
			}
		}
	}
}

// P4.2

func TestCheckClock(t *testing.T) {
	for _, c := range clocks() {
		if e := CheckClock(c); e != api.OK {
			t.Error(c, e)
		}
	}
	for _, c := range wrongClocks() {
		if e := CheckClock(c); e != api.ErrBad {
			t.Error(c, e)
		}
	}
}

func TestCheckClockOfAll(t *testing.T) {
	for _, skew := range edgeNumbers() {
		for _, drift := range edgeNumbers() {
			want := api.ErrBad
			if -api.MaxSkew <= skew && skew <= api.MaxSkew && -api.MaxDrift <= drift && drift <= api.MaxDrift {
				want = api.OK
			}
			if e := CheckClock(api.Clock{Skew: skew, Drift: drift}); e != want {
				t.Error(skew, drift, e)
			}
		}
	}
}

func TestRead(t *testing.T) {
	for _, c := range []struct {
		c        api.Clock
		t, shown int64
	}{
		{api.Clock{}, 0, 0},
		{api.Clock{}, 12, 12},
		{api.Clock{}, api.MaxTime, api.MaxTime},
		{api.Clock{Skew: 20}, 12, 32},
		{api.Clock{Skew: -20}, 12, -8},
		{api.Clock{Skew: -api.MaxSkew}, 0, -1_048_576},
		{api.Clock{Skew: api.MaxSkew}, api.MaxTime, 1_099_512_676_352},
		{api.Clock{Drift: 1}, 999_999, 999_999},
		{api.Clock{Drift: 1}, 1_000_000, 1_000_001},
		{api.Clock{Drift: 1000}, 999, 999},
		{api.Clock{Drift: 1000}, 1000, 1001},
		{api.Clock{Drift: 1000}, api.MaxTime, 1_100_611_139_403},
		{api.Clock{Drift: -1}, 0, 0},
		{api.Clock{Drift: -1}, 1, 0},
		{api.Clock{Drift: -1}, 1_000_000, 999_999},
		{api.Clock{Drift: -1}, 1_000_001, 999_999},
		{api.Clock{Drift: -1000}, 1, 0},
		{api.Clock{Drift: -1000}, 1000, 999},
		{api.Clock{Drift: -1000}, 1001, 999},
		{api.Clock{Drift: -1000}, api.MaxTime, 1_098_412_116_148},
		{api.Clock{Skew: -1_048_576, Drift: -1000}, 1000, -1_047_577},
	} {
		if n, e := Read(c.c, c.t); n != c.shown || e != api.OK {
			t.Error(c, n, e)
		}
	}
}

// modelShow is what a clock shows, in the words of the document: t + Skew + D, where D is rounded to the less number.
func modelShow(c api.Clock, t int64) int64 {
	product := new(big.Int).Mul(big.NewInt(t), big.NewInt(c.Drift))
	d := new(big.Int).Div(product, big.NewInt(1_000_000)) // rounds down because the divisor is positive
	return d.Add(d, big.NewInt(t)).Add(d, big.NewInt(c.Skew)).Int64()
}

func TestReadOfAll(t *testing.T) {
	r := rand.New(rand.NewSource(2))
	for _, c := range clocks() {
		times := edgeTimes()
		for range 100 {
			times = append(times, r.Int63n(api.MaxTime+1), r.Int63n(3*million))
		}
		for _, at := range times {
			if n, e := Read(c, at); n != modelShow(c, at) || e != api.OK {
				t.Fatal(c, at, n, e)
			}
		}
	}
}

func TestReadWrong(t *testing.T) {
	for _, c := range wrongClocks() {
		for _, n := range edgeNumbers() { // also numbers that are not times: the clock's error comes first
			if shown, e := Read(c, n); shown != 0 || e != api.ErrBad {
				t.Error(c, n, shown, e)
			}
		}
	}
	times := edgeTimes()
	for _, c := range clocks() {
		for _, n := range edgeNumbers() {
			if slices.Contains(times, n) {
				continue
			}
			if shown, e := Read(c, n); shown != 0 || e != api.ErrArg {
				t.Error(c, n, shown, e)
			}
		}
	}
}

func TestSure(t *testing.T) {
	for _, c := range []struct {
		c     api.Clock
		shown int64
		w     api.Window
	}{
		{api.Clock{}, 0, api.Window{}},
		{api.Clock{}, 12, api.Window{From: 12, To: 12}},
		{api.Clock{}, api.MaxTime, api.Window{From: api.MaxTime, To: api.MaxTime}},
		{api.Clock{Skew: -20}, -20, api.Window{}},
		{api.Clock{Skew: -20}, -8, api.Window{From: 12, To: 12}},
		{api.Clock{Skew: 20}, 20, api.Window{}},
		{api.Clock{Skew: api.MaxSkew}, api.MaxTime + api.MaxSkew, api.Window{From: api.MaxTime, To: api.MaxTime}},
		{api.Clock{Drift: -1}, 0, api.Window{From: 0, To: 1}},
		{api.Clock{Drift: -1}, 1, api.Window{From: 2, To: 2}},
		{api.Clock{Drift: -1}, 999_999, api.Window{From: 1_000_000, To: 1_000_001}},
		{api.Clock{Drift: -1000}, 0, api.Window{From: 0, To: 1}},
		{api.Clock{Drift: 1000}, 999, api.Window{From: 999, To: 999}},
		{api.Clock{Drift: 1000}, 1001, api.Window{From: 1000, To: 1000}},
		{api.Clock{Drift: -1000}, 1_098_412_116_148, api.Window{From: api.MaxTime, To: api.MaxTime}},
		{api.Clock{Drift: 1000}, 1_100_611_139_403, api.Window{From: api.MaxTime, To: api.MaxTime}},
	} {
		if w, e := Sure(c.c, c.shown); w != c.w || e != api.OK {
			t.Error(c, w, e)
		}
	}
}

func TestSureNone(t *testing.T) {
	for _, c := range []struct {
		c     api.Clock
		shown int64
	}{
		{api.Clock{}, -1},
		{api.Clock{}, api.MaxTime + 1},
		{api.Clock{Skew: 20}, 19},
		{api.Clock{Skew: 20}, 0},
		{api.Clock{Skew: 20}, api.MaxTime + 21},
		{api.Clock{Skew: -20}, -21},
		{api.Clock{Skew: -20}, api.MaxTime},
		{api.Clock{Skew: -20}, api.MaxTime - 19},
		{api.Clock{Drift: 1000}, 1000},
		{api.Clock{Drift: 1000}, 2001},
		{api.Clock{Drift: 1}, 1_000_000},
		{api.Clock{Drift: -1000}, -1},
		{api.Clock{Drift: -1000}, api.MaxTime},
	} {
		if w, e := Sure(c.c, c.shown); w != (api.Window{}) || e != api.ErrNone {
			t.Error(c, w, e)
		}
	}
	for _, c := range clocks() {
		for _, n := range []int64{math.MinInt64, math.MinInt64 + 1, math.MinInt64 + api.MaxSkew, -1 << 62, -api.MaxTime, 1 << 62, math.MaxInt64 - api.MaxSkew, math.MaxInt64 - 1, math.MaxInt64} {
			if w, e := Sure(c, n); w != (api.Window{}) || e != api.ErrNone {
				t.Error(c, n, w, e)
			}
		}
	}
}

// modelSure returns the times at which a clock shows a number, and whether there are any, by halving the times.
func modelSure(c api.Clock, shown int64) (api.Window, bool) {
	first := func(shown int64) int64 { // the first time at which at least this is shown, or MaxTime + 1
		low, high := int64(0), int64(api.MaxTime+1)
		for low < high {
			if mid := (low + high) / 2; modelShow(c, mid) >= shown {
				high = mid
			} else {
				low = mid + 1
			}
		}
		return low
	}
	w := api.Window{From: first(shown), To: first(shown+1) - 1}
	if w.From > w.To {
		return api.Window{}, false
	}
	return w, true
}

func TestSureOfAll(t *testing.T) {
	r := rand.New(rand.NewSource(3))
	for _, c := range clocks() {
		last := modelShow(c, api.MaxTime)
		list := []int64{r.Int63n(api.MaxTime), r.Int63n(api.MaxTime), r.Int63n(million), r.Int63n(million)}
		for d := int64(-3); d <= 3; d++ {
			list = append(list, c.Skew+d, d, c.Skew+1000+d, c.Skew+million+d, last+d, api.MaxTime+d)
		}
		for _, shown := range list {
			want, is := modelSure(c, shown)
			w, e := Sure(c, shown)
			if is && e != api.OK || !is && e != api.ErrNone || w != want {
				t.Fatal(c, shown, w, e, "not", want, is)
			}
		}
	}
}

func TestSureOfEveryNumber(t *testing.T) {
	for _, c := range clocks() {
		times := map[int64]api.Window{} // by what is shown
		for at := range int64(3000) {
			shown := modelShow(c, at)
			w, is := times[shown]
			if !is {
				w.From = at
			}
			w.To = at
			times[shown] = w
		}
		for shown := c.Skew - 10; shown < c.Skew+2900; shown++ {
			want, is := times[shown]
			w, e := Sure(c, shown)
			if is && e != api.OK || !is && e != api.ErrNone || w != want {
				t.Fatal(c, shown, w, e, "not", want, is)
			}
		}
	}
}

func TestSureOfTheLastTime(t *testing.T) {
	for drift := int64(-api.MaxDrift); drift <= api.MaxDrift; drift++ {
		c := api.Clock{Skew: drift * 7, Drift: drift}
		shown := modelShow(c, api.MaxTime)
		want, _ := modelSure(c, shown)
		if w, e := Sure(c, shown); w != want || w.To != api.MaxTime || e != api.OK {
			t.Fatal(c, shown, w, e)
		}
		if w, e := Sure(c, shown+1); w != (api.Window{}) || e != api.ErrNone {
			t.Fatal(c, shown+1, w, e)
		}
	}
}

func TestSureWrong(t *testing.T) {
	for _, c := range wrongClocks() {
		for _, n := range edgeNumbers() { // also numbers that are shown at no time: the clock's error comes first
			if w, e := Sure(c, n); w != (api.Window{}) || e != api.ErrBad {
				t.Error(c, n, w, e)
			}
		}
	}
}

// P4.3

func TestNext(t *testing.T) {
	for _, c := range []struct {
		events  []int64
		t, want int64
		e       api.Errno
	}{
		{nil, 0, 0, api.ErrNone},
		{[]int64{}, 0, 0, api.ErrNone},
		{[]int64{5}, 4, 5, api.OK},
		{[]int64{5}, 5, 0, api.ErrNone},
		{[]int64{5}, 6, 0, api.ErrNone},
		{[]int64{5, 9, 3, 9}, 0, 3, api.OK},
		{[]int64{5, 9, 3, 9}, 3, 5, api.OK},
		{[]int64{5, 9, 3, 9}, 4, 5, api.OK},
		{[]int64{5, 9, 3, 9}, 8, 9, api.OK},
		{[]int64{5, 9, 3, 9}, 9, 0, api.ErrNone},
		{[]int64{9, 5, 3}, -7, 3, api.OK},
		{[]int64{3, 5, 9}, 3, 5, api.OK},
		{[]int64{0, 1}, -1, 0, api.OK},
		{[]int64{1, 0}, -1, 0, api.OK},
		{[]int64{-1, 0}, 0, 0, api.ErrNone},
		{[]int64{-5, -9, -3}, -9, -5, api.OK},
		{[]int64{-5, -9, -3}, -3, 0, api.ErrNone},
		{[]int64{math.MinInt64}, math.MinInt64, 0, api.ErrNone},
		{[]int64{math.MaxInt64, math.MinInt64 + 1, math.MinInt64}, math.MinInt64, math.MinInt64 + 1, api.OK},
		{[]int64{math.MinInt64, math.MaxInt64}, 0, math.MaxInt64, api.OK},
		{[]int64{math.MinInt64, math.MaxInt64}, math.MaxInt64 - 1, math.MaxInt64, api.OK},
		{[]int64{math.MinInt64, math.MaxInt64}, math.MaxInt64, 0, api.ErrNone},
		{[]int64{api.MaxTime + 5, -5}, api.MaxTime + 1, api.MaxTime + 5, api.OK},
	} {
		if n, e := Next(c.events, c.t); n != c.want || e != c.e {
			t.Error(c, n, e)
		}
	}
}

func TestNextOfAll(t *testing.T) {
	r := rand.New(rand.NewSource(4))
	for range 20000 {
		events := make([]int64, r.Intn(8))
		for i := range events {
			events[i] = r.Int63n(12) - 6
		}
		at := r.Int63n(14) - 7
		sorted := slices.Sorted(slices.Values(events))
		i := slices.IndexFunc(sorted, func(n int64) bool { return n > at })
		n, e := Next(events, at)
		if i < 0 && (n != 0 || e != api.ErrNone) || i >= 0 && (n != sorted[i] || e != api.OK) {
			t.Fatal(events, at, n, e)
		}
	}
}

func TestNextLimit(t *testing.T) {
	events := make([]int64, api.MaxEvents)
	for i := range events {
		events[i] = int64(2*api.MaxEvents - i)
	}
	least := int64(api.MaxEvents + 1) // the last one
	if n, e := Next(events, 0); n != least || e != api.OK {
		t.Error(n, e)
	}
	if n, e := Next(events, 2*api.MaxEvents); n != 0 || e != api.ErrNone {
		t.Error(n, e)
	}
	for _, at := range []int64{0, 5, 2 * api.MaxEvents} { // also where none is greater: ErrMany comes first
		for _, more := range []int{1, api.MaxEvents} {
			if n, e := Next(append(events, events[:more]...), at); n != 0 || e != api.ErrMany {
				t.Error(at, more, n, e)
			}
		}
	}
}

// The arguments are only read, with the memory behind them.

func TestNextOnlyReads(t *testing.T) {
	for _, n := range []int{0, 3, 4, api.MaxEvents + 1} {
		memory := make([]int64, api.MaxEvents+10)
		for i := range memory {
			memory[i] = int64(i * 7919 % 1013)
		}
		before := slices.Clone(memory)
		Next(memory[:n], 3)
		if !slices.Equal(memory, before) {
			t.Error(n)
		}
	}
}

// P4.4

func TestNeverDecreases(t *testing.T) {
	r := rand.New(rand.NewSource(5))
	for _, c := range clocks() {
		for range 20 {
			start := r.Int63n(api.MaxTime - 3000)
			before := int64(math.MinInt64)
			for at := start; at < start+3000; at++ {
				n, e := Read(c, at)
				if n < before || e != api.OK {
					t.Fatal(c, at, before, n, e)
				}
				before = n
			}
		}
		before := int64(math.MinInt64)
		for _, at := range edgeTimes() {
			n, e := Read(c, at)
			if n < before || e != api.OK {
				t.Fatal(c, at, before, n, e)
			}
			before = n
		}
	}
}

func abs(n int64) int64 {
	return max(n, -n)
}

func TestDiffersByLittle(t *testing.T) {
	r := rand.New(rand.NewSource(6))
	for _, c := range clocks() {
		times := edgeTimes()
		for range 100 {
			times = append(times, r.Int63n(api.MaxTime+1), r.Int63n(5000))
		}
		for _, at := range times {
			n, e := Read(c, at)
			if abs(n-at) > abs(c.Skew)+(at+999)/1000 || e != api.OK {
				t.Fatal(c, at, n, e)
			}
		}
	}
}

func TestTimeIsInTheWindowOfWhatIsShown(t *testing.T) {
	r := rand.New(rand.NewSource(7))
	for _, c := range clocks() {
		times := edgeTimes()
		for range 100 {
			times = append(times, r.Int63n(api.MaxTime+1), r.Int63n(5000))
		}
		for _, at := range times {
			shown, _ := Read(c, at)
			w, e := Sure(c, shown)
			if e != api.OK || Check(w) != api.OK || !In(w, at) {
				t.Fatal(c, at, shown, w, e)
			}
			for near := max(w.From-3, 0); near <= min(w.To+3, api.MaxTime); near++ {
				if n, e := Read(c, near); (n == shown) != In(w, near) || e != api.OK {
					t.Fatal(c, at, shown, w, near, n, e)
				}
			}
		}
	}
}

// The chapter's examples.

func TestExamples(t *testing.T) {
	c := api.Clock{Skew: 5, Drift: -1000}
	for at, shown := range map[int64]int64{999: 1003, 1000: 1004, 1001: 1004} {
		if n, e := Read(c, at); n != shown || e != api.OK {
			t.Error(at, n, e)
		}
	}
	if w, e := Sure(c, 1004); w != (api.Window{From: 1000, To: 1001}) || e != api.OK {
		t.Error(w, e)
	}
}
