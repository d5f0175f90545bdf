package rto_test

import (
	"math"
	"testing"

	"fairlead/api"
	"fairlead/rto"
)

// ticks is the greatest time that is configured, and the longest that a sample counts.
const ticks = 1 << 20

// dice is a row of numbers that is the same each time.
type dice uint64

func (d *dice) below(n int64) int64 {
	*d = *d*6364136223846793005 + 1442695040888963407
	return int64(uint64(*d)>>32) % n
}

// sized is a number of up to so many bits, small ones as often as great ones.
func (d *dice) sized(bits int64) int64 {
	return d.below(1 << d.below(bits+1))
}

// worded is an estimator kept word for word as the chapter has it.
type worded struct {
	value, least, most int64
	samples            int
	s, v               int64
}

func (w *worded) sample(t int64) api.Errno {
	if t < 0 {
		return api.ErrArg
	}
	if t > ticks {
		t = ticks
	}
	if w.samples == 0 {
		w.s = 8 * t
		w.v = 2 * t
	} else {
		d := w.s/8 - t
		if d < 0 {
			d = -d
		}
		w.v = w.v - w.v/4 + d
		w.s = w.s - w.s/8 + t
	}
	w.samples++
	more := w.v
	if more < 1 {
		more = 1
	}
	w.value = w.s/8 + more
	if w.value < w.least {
		w.value = w.least
	}
	if w.value > w.most {
		w.value = w.most
	}
	return api.OK
}

func (w *worded) back() {
	if w.value > w.most/2 {
		w.value = w.most
	} else {
		w.value += w.value
	}
}

// both is an estimator and the same one kept word for word.
type both struct {
	r *rto.Rto
	w worded
}

// fresh is a new estimator.
func fresh(t *testing.T, first, least, most int64) *rto.Rto {
	t.Helper()
	r, e := rto.New(first, least, most)
	if r == nil || e != api.OK {
		t.Fatalf("P12.1: New(%d, %d, %d): error %d", first, least, most, e)
	}
	return r
}

// two is a new estimator, kept both ways.
func two(t *testing.T, first, least, most int64) *both {
	t.Helper()
	b := &both{fresh(t, first, least, most), worded{value: first, least: least, most: most}}
	b.agree(t, "new")
	return b
}

// agree fails unless the estimator answers as the chapter's words do.
func (b *both) agree(t *testing.T, what string) {
	t.Helper()
	if b.w.samples == 0 {
		without(t, what, b.r, b.w.value)
		return
	}
	is(t, what, b.r, b.w.value, b.w.s/8)
}

func (b *both) sample(t *testing.T, x int64) {
	t.Helper()
	want := b.w.sample(x)
	if e := b.r.Sample(x); e != want {
		t.Fatalf("P12.2: Sample(%d): error %d, not %d", x, e, want)
	}
	b.agree(t, "behind a sample")
}

func (b *both) back(t *testing.T) {
	t.Helper()
	before := b.r.Value()
	b.w.back()
	b.r.Back()
	b.agree(t, "behind Back")
	if b.r.Value() < before {
		t.Fatalf("P12.4: Back lowers %d to %d", before, b.r.Value())
	}
}

// value fails unless that is the estimator's value.
func value(t *testing.T, what string, r *rto.Rto, want int64) {
	t.Helper()
	// Asked twice, since asking may not change anything.
	for range 2 {
		if got := r.Value(); got != want {
			t.Fatalf("P12.3: %s: the value is %d, not %d", what, got, want)
		}
	}
}

// is fails unless the estimator has had samples, and has that value and that smoothed time.
func is(t *testing.T, what string, r *rto.Rto, want, smooth int64) {
	t.Helper()
	value(t, what, r, want)
	for range 2 {
		if got, ok := r.Smooth(); got != smooth || !ok {
			t.Fatalf("P12.3: %s: the smoothed time is %d, %v, not %d", what, got, ok, smooth)
		}
	}
	value(t, what, r, want)
}

// without fails unless the estimator has had no samples, and has that value.
func without(t *testing.T, what string, r *rto.Rto, want int64) {
	t.Helper()
	value(t, what, r, want)
	for range 2 {
		if got, ok := r.Smooth(); got != 0 || ok {
			t.Fatalf("P12.3: %s: without a sample the smoothed time is %d, %v", what, got, ok)
		}
	}
	value(t, what, r, want)
}

// sampled fails unless each of the samples is taken.
func sampled(t *testing.T, r *rto.Rto, samples ...int64) {
	t.Helper()
	for _, x := range samples {
		if e := r.Sample(x); e != api.OK {
			t.Fatalf("P12.2: Sample(%d): error %d", x, e)
		}
	}
}

// step is a sample, and the value and the smoothed time behind it.
type step struct{ t, value, smooth int64 }

// steps fails unless the samples lead to those values.
func steps(t *testing.T, r *rto.Rto, l ...step) {
	t.Helper()
	for _, x := range l {
		sampled(t, r, x.t)
		is(t, "behind a sample", r, x.value, x.smooth)
	}
}

func TestExamples(t *testing.T) {
	r := fresh(t, 3, 1, 60)
	without(t, "new", r, 3)
	steps(t, r, step{8, 24, 8}, step{8, 20, 8}, step{0, 24, 7})
	r.Back()
	is(t, "Back", r, 48, 7)
	r.Back()
	is(t, "Back twice", r, 60, 7)
	if r, e := rto.New(0, 1, 2); r != nil || e != api.ErrArg {
		t.Errorf("P12.1: New(0, 1, 2): error %d", e)
	}
	if e := r.Sample(-1); e != api.ErrArg {
		t.Errorf("P12.2: Sample(-1): error %d", e)
	}
}

// refused fails unless there is no estimator of those numbers.
func refused(t *testing.T, first, least, most int64) {
	t.Helper()
	if r, e := rto.New(first, least, most); r != nil || e != api.ErrArg {
		t.Errorf("P12.1: New(%d, %d, %d): an estimator: %v, error %d", first, least, most, r != nil, e)
	}
}

func TestNew(t *testing.T) {
	for _, x := range [][3]int64{
		{1, 1, 1}, {1, 1, 2}, {2, 1, 2}, {2, 2, 2}, {2, 2, 3}, {3, 1, 60}, {3, 2, 3}, {500, 500, 501},
		{1, 1, ticks - 1}, {ticks - 1, 1, ticks - 1}, {ticks - 1, ticks - 1, ticks - 1},
		{1, 1, ticks}, {ticks, 1, ticks}, {ticks - 1, ticks - 1, ticks}, {ticks, ticks - 1, ticks}, {ticks, ticks, ticks},
	} {
		without(t, "new", fresh(t, x[0], x[1], x[2]), x[0])
	}
}

func TestNewOutOfBounds(t *testing.T) {
	for _, x := range [][3]int64{
		// The least number is too small.
		{0, 0, 0}, {0, 0, 1}, {1, 0, 1}, {5, 0, 9}, {5, -1, 9}, {-1, -1, -1}, {-5, -9, 9}, {1, math.MinInt64, 9},
		{math.MinInt64, math.MinInt64, math.MinInt64}, {ticks, 0, ticks},
		// The first is below the least.
		{0, 1, 2}, {1, 2, 2}, {1, 2, 9}, {-1, 1, 9}, {8, 9, 9}, {ticks - 1, ticks, ticks}, {math.MinInt64, 1, 9},
		// The first is above the most.
		{2, 1, 1}, {10, 1, 9}, {10, 9, 9}, {ticks, 1, ticks - 1}, {ticks + 1, 1, ticks}, {math.MaxInt64, 1, 9},
		// The most is below the least.
		{1, 2, 1}, {2, 2, 1}, {3, 4, 2}, {1, 1, 0}, {1, 1, -1}, {5, 5, -5}, {1, 1, math.MinInt64}, {math.MaxInt64, math.MaxInt64, 1},
		// The most is too great.
		{1, 1, ticks + 1}, {ticks, ticks, ticks + 1}, {ticks + 1, 1, ticks + 1}, {ticks + 1, ticks + 1, ticks + 1},
		{1, 1, 1 << 21}, {1, 1, math.MaxInt32}, {1, 1, 1 << 32}, {1, 1, 1<<32 + 1}, {1, 1, math.MaxInt64},
		{math.MaxInt64, 1, math.MaxInt64}, {math.MaxInt64, math.MaxInt64, math.MaxInt64},
	} {
		refused(t, x[0], x[1], x[2])
	}
}

func TestNewOfAllBounds(t *testing.T) {
	l := []int64{
		math.MinInt64, math.MinInt64 + 1, math.MinInt32, -ticks - 1, -ticks, -2, -1, 0, 1, 2, 3, 59, 60, 61,
		ticks - 1, ticks, ticks + 1, math.MaxInt32, 1 << 32, 1<<32 + 1, math.MaxInt64 - 1, math.MaxInt64,
	}
	made := 0
	for _, first := range l {
		for _, least := range l {
			for _, most := range l {
				if 1 <= least && least <= first && first <= most && most <= ticks {
					made++
					without(t, "new", fresh(t, first, least, most), first)
				} else {
					refused(t, first, least, most)
				}
			}
		}
	}
	if made < 100 {
		t.Errorf("only %d estimators were made", made)
	}
}

// negatives are times that no answer took.
var negatives = []int64{-1, -2, -8, -ticks, -ticks - 1, math.MinInt32, -1 << 32, -1 << 61, math.MinInt64 + 1, math.MinInt64}

func TestNegativeSamplesAreRefused(t *testing.T) {
	for _, x := range negatives {
		b := two(t, 3, 1, 60)
		// Neither the first one, nor one among others, nor one behind Back changes what is answered then and later.
		for n := range 12 {
			for range 2 {
				if e := b.r.Sample(x); e != api.ErrArg {
					t.Fatalf("P12.2: Sample(%d): error %d", x, e)
				}
				b.agree(t, "behind a sample that is refused")
			}
			if n%4 == 0 {
				b.back(t)
			} else {
				b.sample(t, int64(n))
			}
		}
	}
}

// Without a sample that was taken there is no smoothed time, and the next one is the first.
func TestARefusedSampleIsNotTheFirst(t *testing.T) {
	for _, x := range negatives {
		r := fresh(t, 7, 1, 100)
		r.Sample(x)
		r.Sample(x)
		without(t, "all samples refused", r, 7)
		steps(t, r, step{8, 24, 8})
	}
}

func TestFirstSamples(t *testing.T) {
	for _, x := range []struct{ t, value int64 }{
		{0, 1}, {1, 3}, {2, 6}, {3, 9}, {8, 24}, {9, 27}, {100, 300}, {1000, 3000}, {349525, 1048575},
		{349526, ticks}, {ticks - 1, ticks}, {ticks, ticks}, {ticks + 1, ticks}, {math.MaxInt64, ticks},
	} {
		r := fresh(t, 5, 1, ticks)
		sampled(t, r, x.t)
		is(t, "behind the first sample", r, x.value, min(x.t, ticks))
	}
}

// A sample of 0 is one: the next is not the first any more.
func TestAFirstSampleOfNothing(t *testing.T) {
	steps(t, fresh(t, 3, 1, 60), step{0, 1, 0}, step{8, 9, 1}, step{8, 14, 1})
	steps(t, fresh(t, 3, 1, 60), step{0, 1, 0}, step{0, 1, 0}, step{1, 1, 0}, step{1, 2, 0})
}

func TestLongSamplesCountAsTheLongest(t *testing.T) {
	long := []int64{ticks, ticks + 1, ticks + 2, 2 * ticks, math.MaxInt32, 1 << 32, 1<<32 + 1, 1 << 60, 1 << 61, 1 << 62, math.MaxInt64 - 1, math.MaxInt64}
	for _, x := range long {
		for _, most := range []int64{60, ticks - 1, ticks} {
			first, later := two(t, 1, 1, most), two(t, 1, 1, most)
			first.sample(t, x)
			later.sample(t, 5)
			later.sample(t, 5)
			later.sample(t, x)
			// Small samples bring out what is kept beyond the greatest value.
			for range 150 {
				first.sample(t, 5)
				later.sample(t, 5)
			}
		}
	}
	r := fresh(t, 1, 1, ticks)
	steps(t, r, step{ticks + 1, ticks, ticks}, step{0, ticks, 917504}, step{0, ticks, 802816})
	r = fresh(t, 1, 1, ticks)
	steps(t, r, step{ticks - 1, ticks, ticks - 1}, step{0, ticks, 917503}, step{0, ticks, 802815})
	// 8 + (1048576 - 8) / 8, and 12 + 1048568: the sum is above the most, the next ones are not.
	r = fresh(t, 1, 1, ticks)
	steps(t, r, step{8, 24, 8}, step{math.MaxInt64, ticks, 131079}, step{131079, 917514, 131079}, step{131079, 720906, 131079})
}

// The steps are counted by hand: beside each are its d, and V and S behind it.
func TestFurtherSamples(t *testing.T) {
	r := fresh(t, 1, 1, 1000)
	steps(t, r,
		step{10, 30, 10},   // V 20, S 80
		step{10, 25, 10},   // d 0, V 15, S 80
		step{13, 25, 10},   // d 3, V 15, S 83
		step{13, 25, 10},   // d 3, V 15, S 86
		step{3, 28, 9},     // d 7, V 19, S 79
		step{0, 32, 8},     // d 9, V 24, S 70
		step{8, 26, 8},     // d 0, V 18, S 70
		step{9, 23, 8},     // d 1, V 15, S 71
		step{9, 22, 9},     // d 1, V 13, S 72
		step{9, 19, 9},     // d 0, V 10, S 72
		step{109, 129, 21}, // d 100, V 108, S 172
		step{0, 120, 18},   // d 21, V 102, S 151
		step{18, 95, 18},   // d 0, V 77, S 151
		step{17, 77, 18},   // d 1, V 59, S 150
		step{1, 78, 16},    // d 17, V 62 behind 59 - 14 + 17, S 133
	)
}

// V and S are made less by a part that is rounded down, each for itself.
func TestDivisionsTruncate(t *testing.T) {
	for s := range int64(40) {
		for x := range int64(40) {
			b := two(t, 1, 1, ticks)
			b.sample(t, s)
			for range 20 {
				b.sample(t, x)
			}
			b.sample(t, s)
		}
	}
	// S 8, V 2, then d 1, V 3, S 7: a smoothed time of 7 eighths is 0.
	steps(t, fresh(t, 1, 1, 60), step{1, 3, 1}, step{0, 3, 0}, step{0, 3, 0})
	// S 24, V 6, then V 5, S 24, and then V 4, and V 3 that stays.
	steps(t, fresh(t, 1, 1, 60), step{3, 9, 3}, step{3, 8, 3}, step{3, 7, 3}, step{3, 6, 3}, step{3, 6, 3})
}

// d is of S as the sample found it: S / 8 itself moves toward the sample.
func TestTheDistanceIsOfTheOldSmoothedTime(t *testing.T) {
	steps(t, fresh(t, 3, 1, 1000), step{8, 24, 8}, step{72, 92, 16})
	steps(t, fresh(t, 3, 1, 1000), step{80, 240, 80}, step{0, 270, 70})
	steps(t, fresh(t, 3, 1, 1000), step{0, 1, 0}, step{800, 900, 100})
}

// Without variation, which is so only where all samples are 0, the value is 1.
func TestNoVariation(t *testing.T) {
	r := fresh(t, 30, 1, 60)
	steps(t, r, step{0, 1, 0}, step{0, 1, 0}, step{0, 1, 0})
	r.Back()
	r.Back()
	is(t, "Back twice", r, 4, 0)
	steps(t, r, step{0, 1, 0}, step{8, 9, 1})
}

func TestValuesAreRaisedToTheLeast(t *testing.T) {
	r := fresh(t, 20, 10, 60)
	steps(t, r, step{0, 10, 0}, step{0, 10, 0}, step{1, 10, 0})
	// V 1, S 1, then d 8, V 9, S 9: 1 and 9 are the least itself.
	steps(t, r, step{8, 10, 1})
	// d 0, V 7, S 9: 8 is below it.
	steps(t, r, step{1, 10, 1})
	// d 5, V 11, S 14: 12 is above it.
	steps(t, r, step{6, 12, 1})
	for _, x := range []step{{3, 10, 3}, {2, 10, 2}, {4, 12, 4}} {
		steps(t, fresh(t, 10, 10, 60), x)
	}
	steps(t, fresh(t, ticks, ticks, ticks), step{0, ticks, 0}, step{9, ticks, 1}, step{ticks, ticks, 131073})
}

func TestValuesAreLoweredToTheMost(t *testing.T) {
	for _, x := range []step{{19, 57, 19}, {20, 60, 20}, {21, 60, 21}, {60, 60, 60}, {1000, 60, 1000}} {
		steps(t, fresh(t, 3, 1, 60), x)
	}
	// S and V are not limited: S 2400, V 600, then V 450, 338, 254, 191, with S as it is.
	r := fresh(t, 3, 1, 600)
	steps(t, r, step{300, 600, 300}, step{300, 600, 300}, step{300, 600, 300}, step{300, 554, 300}, step{300, 491, 300})
	steps(t, fresh(t, 1, 1, 1), step{0, 1, 0}, step{5, 1, 0}, step{ticks, 1, 131072}, step{0, 1, 114688})
}

func TestBack(t *testing.T) {
	for _, x := range []struct{ first, most, once, twice int64 }{
		{1, 60, 2, 4}, {3, 60, 6, 12}, {15, 60, 30, 60}, {16, 60, 32, 60}, {29, 60, 58, 60}, {30, 60, 60, 60}, {31, 60, 60, 60},
		{59, 60, 60, 60}, {60, 60, 60, 60}, {29, 59, 58, 59}, {30, 59, 59, 59}, {1, 1, 1, 1}, {1, 2, 2, 2}, {1, 3, 2, 3},
		{ticks / 2, ticks, ticks, ticks}, {ticks/2 - 1, ticks, ticks - 2, ticks}, {ticks/2 + 1, ticks, ticks, ticks},
		{ticks - 1, ticks, ticks, ticks}, {ticks, ticks, ticks, ticks}, {ticks / 4, ticks, ticks / 2, ticks},
	} {
		for _, least := range []int64{1, x.first/2 + 1, x.first} {
			r := fresh(t, x.first, least, x.most)
			r.Back()
			without(t, "Back", r, x.once)
			r.Back()
			without(t, "Back twice", r, x.twice)
			for range 100 {
				r.Back()
			}
			without(t, "Back many times", r, x.most)
		}
	}
}

func TestBackDoublesTimeAndAgain(t *testing.T) {
	r := fresh(t, 1, 1, ticks)
	for want := int64(2); want <= ticks; want *= 2 {
		r.Back()
		without(t, "Back", r, want)
	}
	for range 70 {
		r.Back()
		without(t, "Back of the most", r, ticks)
	}
}

// Back changes the value alone: the next sample's value comes of the samples.
func TestASampleBehindBack(t *testing.T) {
	r := fresh(t, 3, 1, 1000)
	r.Back()
	r.Back()
	without(t, "Back twice", r, 12)
	steps(t, r, step{8, 24, 8})
	for range 3 {
		r.Back()
	}
	is(t, "Back three times", r, 192, 8)
	steps(t, r, step{8, 20, 8}, step{0, 24, 7})
	for range 50 {
		r.Back()
	}
	is(t, "Back many times", r, 1000, 7)
	steps(t, r, step{7, 20, 7})
}

func TestValueAndSmooth(t *testing.T) {
	r := fresh(t, 4, 2, 90)
	without(t, "new", r, 4)
	r.Sample(-1)
	without(t, "behind a sample that is refused", r, 4)
	r.Back()
	without(t, "behind Back", r, 8)
	sampled(t, r, 0)
	is(t, "behind a sample of 0", r, 2, 0)
	// S 7, then 14: 14 eighths are 1. V 7, then 13.
	sampled(t, r, 7)
	is(t, "behind a second sample", r, 7, 0)
	sampled(t, r, 7)
	is(t, "behind a third sample", r, 14, 1)
	r.Sample(math.MinInt64)
	is(t, "behind a sample that is refused", r, 14, 1)
	r.Back()
	is(t, "behind Back", r, 28, 1)
}

func TestNil(t *testing.T) {
	var r *rto.Rto
	for range 2 {
		for _, x := range append([]int64{0, 1, 8, ticks, ticks + 1, math.MaxInt64}, negatives...) {
			if e := r.Sample(x); e != api.ErrNil {
				t.Errorf("P12.2: Sample(%d) of nil: error %d", x, e)
			}
		}
		r.Back()
		if x := r.Value(); x != 0 {
			t.Errorf("P12.3: the value of nil: %d", x)
		}
		if x, ok := r.Smooth(); x != 0 || ok {
			t.Errorf("P12.3: the smoothed time of nil: %d, %v", x, ok)
		}
	}
	if r != nil {
		t.Error("R4: nil became an estimator")
	}
}

// settled fails unless equal samples bring the value to where it stays.
func settled(t *testing.T, x, least, most int64) {
	t.Helper()
	r := fresh(t, least, least, most)
	counts := min(x, ticks)
	from, to := min(max(counts+1, least), most), min(max(counts+3, least), most)
	for range 80 {
		sampled(t, r, x)
	}
	stays := r.Value()
	if stays < from || stays > to {
		t.Fatalf("P12.4: samples of %d, from %d to %d: the value comes to %d, not to %d to %d", x, least, most, stays, from, to)
	}
	for range 80 {
		sampled(t, r, x)
		is(t, "equal samples", r, stays, counts)
	}
}

func TestEqualSamples(t *testing.T) {
	for x := range int64(300) {
		settled(t, x, 1, ticks)
		settled(t, x, 1, 60)
		settled(t, x, 50, 60)
		settled(t, x, 1, 1)
	}
	for _, x := range []int64{1000, 1 << 16, 349525, 349526, ticks - 4, ticks - 3, ticks - 2, ticks - 1, ticks, ticks + 1, 2 * ticks, math.MaxInt64} {
		for _, most := range []int64{60, ticks - 1, ticks} {
			settled(t, x, 1, most)
			settled(t, x, 50, most)
			settled(t, x, most, most)
		}
	}
	// What they come to: V is 0, 2, 3 and 3, and 3 of what is greater.
	for x, want := range []int64{1, 3, 5, 6, 7, 8, 9} {
		r := fresh(t, 9, 1, 60)
		for range 20 {
			sampled(t, r, int64(x))
		}
		is(t, "equal samples", r, want, int64(x))
	}
}

// bounded fails unless the value is within its bounds.
func (b *both) bounded(t *testing.T) {
	t.Helper()
	if x := b.r.Value(); x < b.w.least || x > b.w.most {
		t.Fatalf("P12.4: the value is %d, from %d to %d", x, b.w.least, b.w.most)
	}
}

// turn does one thing to an estimator kept both ways.
func (b *both) turn(t *testing.T, d *dice, bits int64) {
	t.Helper()
	switch d.below(8) {
	case 0, 1:
		b.back(t)
	case 2:
		b.sample(t, -1-d.sized(31))
	case 3:
		b.sample(t, d.sized(bits)+d.below(2)*ticks)
	default:
		b.sample(t, d.sized(bits))
	}
	b.bounded(t)
}

// thrown is an estimator with any numbers that New takes.
func thrown(t *testing.T, d *dice) *both {
	t.Helper()
	most := 1 + d.sized(20)
	if d.below(4) == 0 {
		most = ticks
	}
	least := 1 + d.below(min(most, 1+d.sized(20)))
	return two(t, least+d.below(most-least+1), least, most)
}

func TestLongRows(t *testing.T) {
	d := dice(1)
	for range 300 {
		b := thrown(t, &d)
		bits := d.below(24)
		for range 500 {
			b.turn(t, &d, bits)
		}
	}
	b := two(t, 3, 1, ticks)
	for range 100000 {
		b.turn(t, &d, 21)
	}
}

// Samples that swing as far as they can take what is kept as far as it goes.
func TestSamplesThatSwing(t *testing.T) {
	for _, period := range []int{1, 2, 3, 8, 50} {
		for _, most := range []int64{1, 60, ticks - 1, ticks} {
			b := two(t, 1, 1, most)
			for n := range 600 {
				b.sample(t, int64(n/period%2)*math.MaxInt64)
				b.bounded(t)
			}
			for range 300 {
				b.sample(t, 0)
			}
		}
	}
}

// Estimators know nothing of one another, and the same calls lead to the same answers.
func TestEstimatorsAreApart(t *testing.T) {
	d := dice(2)
	var l []*both
	for range 20 {
		l = append(l, thrown(t, &d))
	}
	for range 4000 {
		l[d.below(20)].turn(t, &d, 12)
		for _, b := range l {
			b.agree(t, "among others")
		}
	}
	a, b := fresh(t, 3, 1, 60), fresh(t, 3, 1, 60)
	sampled(t, a, 8, 8, 0)
	a.Back()
	without(t, "the other one", b, 3)
	sampled(t, b, 8, 8, 0)
	is(t, "the same samples", b, 24, 7)
	is(t, "the first one", a, 48, 7)
	if _, e := rto.New(0, 0, 0); e != api.ErrArg {
		t.Errorf("P12.1: New(0, 0, 0): error %d", e)
	}
	is(t, "behind a New that is refused", a, 48, 7)
}
