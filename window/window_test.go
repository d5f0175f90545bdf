package window_test

import (
	"math"
	"testing"

	"fairlead/api"
	"fairlead/window"
)

// greatest is the greatest number that a window's most may be.
const greatest = 1 << 24

// nothings are numbers of bytes that are none.
var nothings = []int{0, -1, -2, -127, -128, -129, -1500, -4000, -greatest, math.MinInt32, -1 << 32, -1<<32 - 1, math.MinInt + 1, math.MinInt}

// either is a full window and one that is not.
var either = []bool{true, false}

// dice is a row of numbers that is the same each time.
type dice uint64

func (d *dice) below(n int) int {
	*d = *d*6364136223846793005 + 1442695040888963407
	return int(uint64(*d)>>33) % n
}

// sized is a number of up to so many bits, small ones as often as great ones.
func (d *dice) sized(bits int) int {
	return d.below(1 << d.below(bits+1))
}

// worded is a window kept word for word as the chapter has it.
type worded struct {
	mtu, most       int
	size, threshold int
	part            int64
}

func (w *worded) acked(n int, full bool) {
	if n < 1 {
		return
	}
	if w.size <= w.threshold {
		if full && n < w.mtu {
			w.size += n
		} else if full {
			w.size += w.mtu
		}
	} else {
		if n > w.most {
			n = w.most
		}
		w.part += int64(n)
		if full && int64(w.size) <= w.part {
			w.part -= int64(w.size)
			w.size += w.mtu
		}
	}
	if w.size > w.most {
		w.size = w.most
	}
}

func (w *worded) halve() {
	w.part = 0
	w.threshold = w.size / 2
	if w.threshold < 4*w.mtu {
		w.threshold = 4 * w.mtu
	}
}

func (w *worded) fast() {
	w.halve()
	if w.size > w.threshold {
		w.size = w.threshold
	}
}

func (w *worded) timeout() {
	w.halve()
	w.size = w.mtu
}

// both is a window and the same one kept word for word.
type both struct {
	r *window.Window
	w worded
}

// two is a new window, kept both ways.
func two(t *testing.T, mtu, most int) *both {
	t.Helper()
	r, e := window.New(mtu, most)
	if r == nil || e != api.OK {
		t.Fatalf("P13.1: New(%d, %d): error %d", mtu, most, e)
	}
	b := &both{r, worded{mtu: mtu, most: most, size: 2 * mtu, threshold: most}}
	is(t, "P13.1: new", r, 2*mtu, most)
	b.bounded(t)
	return b
}

// is fails unless the window has that size and that threshold.
func is(t *testing.T, what string, r *window.Window, size, threshold int) {
	t.Helper()
	// Asked twice, since asking may not change anything.
	for range 2 {
		if s, h := r.Size(), r.Threshold(); s != size || h != threshold {
			t.Fatalf("%s: size %d and threshold %d, not %d and %d", what, s, h, size, threshold)
		}
	}
}

// agree fails unless the window answers as the chapter's words do.
func (b *both) agree(t *testing.T, what string) {
	t.Helper()
	is(t, what, b.r, b.w.size, b.w.threshold)
}

// bounded fails unless size and threshold are within their bounds.
func (b *both) bounded(t *testing.T) {
	t.Helper()
	s, h := b.r.Size(), b.r.Threshold()
	if s < b.w.mtu || s > b.w.most || h < 4*b.w.mtu || h > b.w.most {
		t.Fatalf("P13.4: mtu %d, most %d: size %d and threshold %d", b.w.mtu, b.w.most, s, h)
	}
}

func (b *both) acked(t *testing.T, n int, full bool) {
	t.Helper()
	size, threshold := b.r.Size(), b.r.Threshold()
	b.r.Acked(n, full)
	b.w.acked(n, full)
	b.agree(t, "P13.2: Acked")
	b.bounded(t)
	if s := b.r.Size(); s < size || s > size+b.w.mtu || b.r.Threshold() < threshold {
		t.Fatalf("P13.4: Acked(%d, %v) of size %d and threshold %d: %d and %d", n, full, size, threshold, s, b.r.Threshold())
	}
}

func (b *both) fast(t *testing.T) {
	t.Helper()
	size := b.r.Size()
	b.r.Fast()
	b.w.fast()
	b.agree(t, "P13.3: Fast")
	b.bounded(t)
	if b.r.Size() > size {
		t.Fatalf("P13.4: Fast raises %d to %d", size, b.r.Size())
	}
}

func (b *both) timeout(t *testing.T) {
	t.Helper()
	size := b.r.Size()
	b.r.Timeout()
	b.w.timeout()
	b.agree(t, "P13.3: Timeout")
	b.bounded(t)
	if b.r.Size() > size {
		t.Fatalf("P13.4: Timeout raises %d to %d", size, b.r.Size())
	}
}

// to grows a window without a part to a size that is at most a packet beyond its threshold.
func (b *both) to(t *testing.T, size int) {
	t.Helper()
	// Behind a step from below the threshold to above it, the next would not lead on.
	for _, goal := range []int{min(size, b.w.threshold), size} {
		for b.w.size < goal {
			b.acked(t, min(goal-b.w.size, b.w.mtu), true)
		}
	}
	is(t, "P13.2: growing", b.r, size, b.w.threshold)
}

// made is a window without a part, of a threshold of up to half of most, and of a size of up to a packet beyond it.
func made(t *testing.T, mtu, most, size, threshold int) *both {
	t.Helper()
	b := two(t, mtu, most)
	b.to(t, max(2*threshold, 2*mtu))
	b.timeout(t)
	b.to(t, size)
	is(t, "made", b.r, size, threshold)
	return b
}

// step is an acknowledgement, and the size behind it.
type step struct {
	n    int
	full bool
	size int
}

// steps fails unless the acknowledgements lead to those sizes, and leave the threshold as it is.
func (b *both) steps(t *testing.T, l ...step) {
	t.Helper()
	threshold := b.r.Threshold()
	for _, x := range l {
		b.acked(t, x.n, x.full)
		is(t, "P13.2: Acked", b.r, x.size, threshold)
	}
}

func TestExamples(t *testing.T) {
	b := two(t, 128, 1000)
	is(t, "P13.1: New", b.r, 256, 1000)
	b.steps(t, step{100, true, 356}, step{500, true, 484}, step{9, false, 484})
	b.fast(t)
	is(t, "P13.3: Fast", b.r, 484, 512)
	b.timeout(t)
	is(t, "P13.3: Timeout", b.r, 128, 512)
	refused(t, 128, 511)
}

// refused fails unless there is no window of those numbers.
func refused(t *testing.T, mtu, most int) {
	t.Helper()
	if r, e := window.New(mtu, most); r != nil || e != api.ErrArg {
		t.Errorf("P13.1: New(%d, %d): a window: %v, error %d", mtu, most, r != nil, e)
	}
}

func TestNew(t *testing.T) {
	for mtu := 128; mtu <= 1500; mtu++ {
		for _, most := range []int{4 * mtu, 4*mtu + 1, 8 * mtu, 1 << 20, greatest - 1, greatest} {
			two(t, mtu, most)
		}
		for _, most := range []int{4*mtu - 1, 3 * mtu, mtu, 0, -1, greatest + 1} {
			refused(t, mtu, most)
		}
	}
	for mtu := -1600; mtu < 128; mtu++ {
		for _, most := range []int{4 * mtu, 512, 6000, greatest} {
			refused(t, mtu, most)
		}
	}
	for mtu := 1501; mtu < 1700; mtu++ {
		for _, most := range []int{4 * mtu, 6000, greatest} {
			refused(t, mtu, most)
		}
	}
}

func TestNewOfAllBounds(t *testing.T) {
	mtus := []int{
		math.MinInt, math.MinInt + 1, math.MinInt + 128, math.MinInt32, -1<<32 + 128, -1500, -128, -1, 0, 1, 127, 128, 129, 1499, 1500, 1501,
		6000, greatest, math.MaxInt32, 1 << 32, 1<<32 + 128, 1<<32 + 1500, 1<<62 + 128, 1<<62 + 1500, math.MaxInt - 1, math.MaxInt,
	}
	mosts := []int{
		math.MinInt, math.MinInt + 1, math.MinInt + 512, math.MinInt32, -1 << 32, -greatest, -6000, -512, -1, 0, 1, 127, 128, 511, 512, 513, 515, 516,
		517, 5995, 5996, 5997, 5999, 6000, 6001, greatest - 1, greatest, greatest + 1, 2 * greatest, math.MaxInt32, 1 << 32, 1<<32 + 512,
		1<<32 + 6000, 1<<32 + greatest, 1<<62 + 6000, math.MaxInt - 1, math.MaxInt,
	}
	count := 0
	for _, mtu := range mtus {
		for _, most := range mosts {
			if 128 <= mtu && mtu <= 1500 && most <= greatest && 4*mtu <= most {
				count++
				two(t, mtu, most)
			} else {
				refused(t, mtu, most)
			}
		}
	}
	if count != 13+10+7+4 {
		t.Errorf("%d windows were made", count)
	}
}

// states are windows below their thresholds, at them and above them.
func states(t *testing.T) []*both {
	t.Helper()
	return []*both{
		two(t, 128, 4000), two(t, 128, 512), two(t, 1500, greatest),
		made(t, 128, 4000, 128, 512), made(t, 128, 4000, 511, 512), made(t, 128, 4000, 512, 512),
		made(t, 128, 4000, 513, 512), made(t, 128, 4000, 640, 512), made(t, 128, 4000, 1999, 2000),
		made(t, 128, 4000, 2000, 2000), made(t, 128, 4000, 2001, 2000), made(t, 1500, 20001, 10001, 10000),
	}
}

func TestAckedOfNothing(t *testing.T) {
	for _, b := range states(t) {
		size, threshold := b.w.size, b.w.threshold
		for _, n := range nothings {
			for _, full := range either {
				b.r.Acked(n, full)
				is(t, "P13.2: Acked of nothing", b.r, size, threshold)
			}
		}
		// What comes next finds the window as it was.
		for range 30 {
			b.acked(t, 100, true)
			b.r.Acked(0, true)
			b.r.Acked(-1, true)
			b.agree(t, "P13.2: Acked of nothing")
		}
		b.fast(t)
	}
}

// The part is neither made less by what is nothing, nor is it looked at.
func TestAckedOfNothingOfAPart(t *testing.T) {
	for _, n := range nothings {
		for _, full := range either {
			b := made(t, 128, 4000, 513, 512)
			b.steps(t, step{512, true, 513}, step{n, full, 513}, step{1, true, 641})
			b = made(t, 128, 4000, 513, 512)
			b.steps(t, step{1153, false, 513}, step{n, full, 513}, step{1, true, 641}, step{n, full, 641}, step{1, true, 769})
		}
	}
}

// grown fails unless so many bytes, acknowledged at or below the threshold, make the size greater by that if it was full.
func grown(t *testing.T, fresh func() *both, n, by int) {
	t.Helper()
	b := fresh()
	b.steps(t, step{n, false, b.w.size})
	b.steps(t, step{n, true, b.w.size + by})
}

func TestAckedUpToTheThreshold(t *testing.T) {
	for _, size := range []int{128, 129, 256, 257, 300, 500, 511, 512} {
		fresh := func() *both { return made(t, 128, 4000, size, 512) }
		for n := 1; n <= 128; n++ {
			grown(t, fresh, n, n)
		}
		for _, n := range []int{129, 130, 255, 256, 511, 512, 513, 1000, 4000, 4001, greatest, math.MaxInt32, 1 << 32, 1<<32 + 1, math.MaxInt - 1, math.MaxInt} {
			grown(t, fresh, n, 128)
		}
	}
	for _, size := range []int{1500, 3000, 5999, 6000} {
		fresh := func() *both { return made(t, 1500, 40000, size, 6000) }
		for _, x := range [][2]int{{1, 1}, {2, 2}, {128, 128}, {1499, 1499}, {1500, 1500}, {1501, 1500}, {3000, 1500}, {math.MaxInt, 1500}} {
			grown(t, fresh, x[0], x[1])
		}
	}
	grown(t, func() *both { return two(t, 1500, greatest) }, math.MaxInt, 1500)
	grown(t, func() *both { return two(t, 129, greatest) }, 128, 128)
	grown(t, func() *both { return two(t, 129, greatest) }, 130, 129)
}

// The same calls at the threshold and one byte above it: below, each counts at once; above, they add up.
func TestTheThresholdItselfIsNotAbove(t *testing.T) {
	made(t, 128, 4000, 511, 512).steps(t, step{1, true, 512}, step{1, true, 513}, step{1, true, 513}, step{1, true, 513})
	made(t, 128, 4000, 512, 512).steps(t, step{128, true, 640}, step{128, true, 640}, step{511, true, 640}, step{1, true, 768})
	made(t, 128, 4000, 2000, 2000).steps(t, step{2, true, 2002}, step{2001, true, 2002}, step{1, true, 2130})
	made(t, 128, 4000, 511, 512).steps(t, step{1000, true, 639}, step{638, true, 639}, step{1, true, 767})
}

// What was acknowledged while the size was not above the threshold is no part of what counts above it.
func TestNoPartUpToTheThreshold(t *testing.T) {
	b := made(t, 128, 4000, 512, 512)
	for range 9 {
		b.steps(t, step{4000, false, 512}, step{math.MaxInt, false, 512})
	}
	b.steps(t, step{math.MaxInt, true, 640}, step{639, true, 640}, step{1, true, 768})
	b = made(t, 128, 4000, 128, 512)
	b.steps(t, step{1000, true, 256}, step{1000, true, 384}, step{1000, true, 512}, step{1000, true, 640}, step{639, true, 640}, step{1, true, 768})
}

// Beside the steps is the part behind them.
func TestAckedAboveTheThreshold(t *testing.T) {
	fresh := func() *both { return made(t, 128, 4000, 513, 512) }
	for _, n := range []int{1, 2, 127, 128, 129, 256, 511, 512} {
		fresh().steps(t, step{n, true, 513}, step{512 - n, true, 513}, step{1, true, 641})
		fresh().steps(t, step{n, false, 513}, step{513 - n, true, 641}, step{640, true, 641}, step{1, true, 769})
	}
	fresh().steps(t, step{513, true, 641}, step{640, true, 641}, step{1, true, 769})
	fresh().steps(t, step{514, true, 641}, step{640, true, 769}, step{768, true, 769}, step{1, true, 897})
	fresh().steps(t, step{640, true, 641}, step{513, true, 641}, step{1, true, 769})
	fresh().steps(t,
		step{1000, true, 641}, // 487
		step{1, true, 641},    // 488
		step{152, true, 641},  // 640
		step{2, true, 769},    // 1
		step{767, true, 769},  // 768
		step{769, true, 897},  // 768
		step{129, true, 1025}, // 0
		step{1024, true, 1025},
		step{1, true, 1153},
	)
	made(t, 1500, 40000, 6001, 6000).steps(t, step{6000, true, 6001}, step{1, true, 7501}, step{7500, true, 7501}, step{2, true, 9001}, step{9000, true, 10501})
	made(t, 1500, 40000, 7500, 6000).steps(t, step{7499, true, 7500}, step{7501, true, 9000}, step{1499, true, 9000}, step{1, true, 10500})
}

// A window that is not full keeps its size, but what is acknowledged counts once it is full.
func TestThePartGrowsWithoutFull(t *testing.T) {
	fresh := func() *both { return made(t, 128, 4000, 513, 512) }
	fresh().steps(t, step{513, false, 513}, step{1, false, 513}, step{1, true, 641}, step{638, true, 641}, step{1, true, 769})
	fresh().steps(t, step{512, false, 513}, step{1, true, 641})
	fresh().steps(t, step{511, false, 513}, step{1, true, 513}, step{1, false, 513}, step{1, true, 641})
	fresh().steps(t,
		step{4000, false, 513}, // 4000
		step{1, true, 641},     // 3488
		step{1, true, 769},     // 2848
		step{1, false, 769},    // 2849
		step{1, true, 897},     // 2081
		step{1, true, 1025},    // 1185
		step{1, true, 1153},    // 161
		step{991, true, 1153},  // 1152
		step{1, true, 1281},    // 0
		step{1280, true, 1281},
		step{1, true, 1409},
	)
	b := fresh()
	for range 512 {
		b.steps(t, step{1, false, 513})
	}
	b.steps(t, step{1, true, 641})
}

// However much is acknowledged at once, it counts as most, and makes the window greater once.
func TestThePartGrowsByAtMostMost(t *testing.T) {
	for _, n := range []int{4000, 4001, 4002, 5000, 8000, greatest, greatest + 1, math.MaxInt32, 1 << 32, 1<<32 + 1, math.MaxInt - 513, math.MaxInt - 1, math.MaxInt} {
		made(t, 128, 4000, 513, 512).steps(t,
			step{n, true, 641},    // 3487
			step{1, true, 769},    // 2847
			step{1, true, 897},    // 2079
			step{1, true, 1025},   // 1183
			step{1, true, 1153},   // 159
			step{993, true, 1153}, // 1152
			step{1, true, 1281},   // 0
		)
		made(t, 128, 4000, 513, 512).steps(t,
			step{n, false, 513},    // 4000
			step{n, false, 513},    // 8000
			step{n, true, 641},     // 11487
			step{n, true, 769},     // 14846
			step{n, false, 769},    // 18846
			step{1, true, 897},     // 18078
			step{1, true, 1025},    // 17182
			step{1, true, 1153},    // 16158
			step{1, true, 1281},    // 15006
			step{1, true, 1409},    // 13726
			step{1, true, 1537},    // 12318
			step{1, true, 1665},    // 10782
			step{1, true, 1793},    // 9118
			step{1, true, 1921},    // 7326
			step{1, true, 2049},    // 5406
			step{1, true, 2177},    // 3358
			step{1, true, 2305},    // 1182
			step{1122, true, 2305}, // 2304
			step{1, true, 2433},    // 0
		)
	}
	// One less than most counts as it is.
	made(t, 128, 4000, 513, 512).steps(t, step{3999, true, 641}, step{1, true, 769}, step{1, true, 897}, step{1, true, 1025}, step{1, true, 1153}, step{993, true, 1153}, step{1, true, 1153}, step{1, true, 1281})
}

// Of what is far more than can be counted with 32 bits, nothing is lost.
func TestAGreatPart(t *testing.T) {
	for _, times := range []int{100, 300, 1000, 10000} {
		b := made(t, 1500, greatest, 6001, 6000)
		for range times {
			b.acked(t, math.MaxInt, false)
		}
		left, size := int64(times)*greatest, 6001
		for size < greatest && left+1 >= int64(size) {
			left += 1 - int64(size)
			size = min(size+1500, greatest)
			b.steps(t, step{1, true, size})
		}
		if times == 10000 != (size == greatest) {
			t.Errorf("%d times: the size comes to %d", times, size)
		}
		if size < greatest {
			b.steps(t, step{1, true, size}, step{size - 3 - int(left), true, size}, step{1, true, size}, step{1, true, size + 1500})
		}
	}
}

func TestSizesEndAtMost(t *testing.T) {
	b := two(t, 128, 1000)
	b.steps(t, step{128, true, 384}, step{128, true, 512}, step{128, true, 640}, step{128, true, 768}, step{128, true, 896}, step{128, true, 1000})
	for _, n := range []int{1, 128, 1000, math.MaxInt} {
		b.steps(t, step{n, true, 1000}, step{n, false, 1000})
	}
	for _, x := range [][3]int{{998, 1, 999}, {998, 2, 1000}, {998, 3, 1000}, {999, 1, 1000}, {999, 2, 1000}, {872, 128, 1000}, {871, 128, 999}, {873, 128, 1000}} {
		b := two(t, 128, 1000)
		b.to(t, x[0])
		b.steps(t, step{x[1], true, x[2]}, step{1000, true, 1000}, step{1000, true, 1000})
	}
	// Above the threshold: 513, 641, 769, 897, 1025.
	for _, most := range []int{1024, 1025, 1026, 1152, 1153, 1154} {
		b := made(t, 128, most, 513, 512)
		b.steps(t, step{513, true, 641}, step{641, true, 769}, step{769, true, 897}, step{897, true, min(1025, most)})
		b.steps(t, step{most, true, min(1153, most)}, step{most, true, min(1281, most)}, step{most, true, most}, step{math.MaxInt, true, most})
	}
	b = two(t, 128, 512)
	b.steps(t, step{128, true, 384}, step{127, true, 511}, step{128, true, 512}, step{512, true, 512}, step{512, true, 512})
	b.fast(t)
	is(t, "P13.3: Fast of the least most", b.r, 512, 512)
	b.steps(t, step{512, true, 512}, step{512, true, 512})
	b.timeout(t)
	is(t, "P13.3: Timeout of the least most", b.r, 128, 512)
}

// From the greatest size of all, a loss leads to half of it.
func TestLossesAtTheGreatestSize(t *testing.T) {
	b := two(t, 1500, greatest)
	b.to(t, greatest)
	b.steps(t, step{math.MaxInt, true, greatest})
	b.fast(t)
	is(t, "P13.3: Fast", b.r, greatest/2, greatest/2)
	b.to(t, greatest/2+1500)
	for b.w.size < greatest {
		b.acked(t, greatest, true)
	}
	b.timeout(t)
	is(t, "P13.3: Timeout", b.r, 1500, greatest/2)
}

// halves are sizes of windows with an mtu of 128, and the thresholds that losses make of them.
var halves = [][2]int{
	{256, 512}, {257, 512}, {300, 512}, {484, 512}, {510, 512}, {511, 512}, {512, 512}, {513, 512}, {514, 512}, {515, 512}, {640, 512},
	{1000, 512}, {1022, 512}, {1023, 512}, {1024, 512}, {1025, 512}, {1026, 513}, {1027, 513}, {1028, 514}, {1029, 514},
	{1999, 999}, {2000, 1000}, {2001, 1000}, {3998, 1999}, {3999, 1999}, {4000, 2000},
}

func TestFast(t *testing.T) {
	for _, x := range halves {
		b := two(t, 128, 4000)
		b.to(t, x[0])
		b.fast(t)
		is(t, "P13.3: Fast", b.r, min(x[0], x[1]), x[1])
	}
	for size := 256; size <= 4000; size++ {
		b := two(t, 128, 4000)
		b.to(t, size)
		b.fast(t)
	}
	for _, x := range [][3]int{{1500, 1500, 6000}, {5999, 5999, 6000}, {6000, 6000, 6000}, {6001, 6000, 6000}, {7500, 6000, 6000}} {
		b := made(t, 1500, 40000, x[0], 6000)
		b.fast(t)
		is(t, "P13.3: Fast", b.r, x[1], x[2])
	}
}

func TestTimeout(t *testing.T) {
	for _, x := range halves {
		b := two(t, 128, 4000)
		b.to(t, x[0])
		b.timeout(t)
		is(t, "P13.3: Timeout", b.r, 128, x[1])
	}
	for size := 256; size <= 4000; size++ {
		b := two(t, 128, 4000)
		b.to(t, size)
		b.timeout(t)
	}
	for _, size := range []int{1500, 5999, 6000, 6001, 7500} {
		b := made(t, 1500, 40000, size, 6000)
		b.timeout(t)
		is(t, "P13.3: Timeout", b.r, 1500, 6000)
	}
}

// The threshold is of the size alone: a loss lowers it, leaves it or raises it.
func TestTheThresholdThatWasDoesNotCount(t *testing.T) {
	for _, fall := range []func(*both){func(b *both) { b.fast(t) }, func(b *both) { b.timeout(t) }} {
		raised := made(t, 128, 4000, 513, 512)
		for raised.w.size < 2049 {
			raised.acked(t, 4000, true)
		}
		is(t, "above the threshold", raised.r, 2049, 512)
		fall(raised)
		if h := raised.r.Threshold(); h != 1024 {
			t.Errorf("P13.3: a loss at 2049 above 512: threshold %d", h)
		}
		left := made(t, 128, 4000, 700, 600)
		fall(left)
		if h := left.r.Threshold(); h != 512 {
			t.Errorf("P13.3: a loss at 700 above 600: threshold %d", h)
		}
		lowered := made(t, 128, 4000, 1500, 2000)
		fall(lowered)
		if h := lowered.r.Threshold(); h != 750 {
			t.Errorf("P13.3: a loss at 1500 below 2000: threshold %d", h)
		}
	}
}

// The size that is halved is the one that the window had, not the one that a loss leaves.
func TestLossesInARow(t *testing.T) {
	b := two(t, 128, 10000)
	b.to(t, 9999)
	for _, want := range []int{4999, 2499, 1249, 624, 512, 512, 512} {
		b.fast(t)
		is(t, "P13.3: Fast again", b.r, want, max(want, 512))
	}
	b.timeout(t)
	is(t, "P13.3: Timeout behind Fast", b.r, 128, 512)
	b.timeout(t)
	is(t, "P13.3: Timeout again", b.r, 128, 512)
	b.fast(t)
	is(t, "P13.3: Fast behind Timeout", b.r, 128, 512)
	b = two(t, 128, 10000)
	b.to(t, 5001)
	b.timeout(t)
	is(t, "P13.3: Timeout", b.r, 128, 2500)
	b.timeout(t)
	is(t, "P13.3: Timeout again", b.r, 128, 512)
	b = two(t, 128, 10000)
	b.to(t, 5001)
	b.timeout(t)
	b.fast(t)
	is(t, "P13.3: Fast behind Timeout", b.r, 128, 512)
	b = two(t, 128, 10000)
	b.to(t, 5001)
	b.fast(t)
	is(t, "P13.3: Fast", b.r, 2500, 2500)
	b.timeout(t)
	is(t, "P13.3: Timeout behind Fast", b.r, 128, 1250)
	b = two(t, 128, 512)
	b.fast(t)
	is(t, "P13.3: Fast of a new window", b.r, 256, 512)
	b.timeout(t)
	b.fast(t)
	is(t, "P13.3: Fast behind Timeout", b.r, 128, 512)
}

func TestLossesSetThePartToNothing(t *testing.T) {
	for _, n := range []int{1, 512, 513, 4000, math.MaxInt} {
		for _, full := range either {
			b := made(t, 128, 4000, 513, 512)
			b.acked(t, n, full)
			b.fast(t)
			is(t, "P13.3: Fast", b.r, 512, 512)
			b.steps(t, step{1, true, 513}, step{512, true, 513}, step{1, true, 641})
			b = made(t, 128, 4000, 513, 512)
			b.acked(t, n, full)
			b.timeout(t)
			is(t, "P13.3: Timeout", b.r, 128, 512)
			b.steps(t, step{128, true, 256}, step{128, true, 384}, step{128, true, 512}, step{1, true, 513}, step{512, true, 513}, step{1, true, 641})
		}
	}
}

func TestNil(t *testing.T) {
	var w *window.Window
	for range 2 {
		is(t, "P13.1: nil", w, 0, 0)
		for _, n := range append([]int{1, 127, 128, 129, 4000, greatest, math.MaxInt}, nothings...) {
			for _, full := range either {
				w.Acked(n, full)
				is(t, "R4: Acked of nil", w, 0, 0)
			}
		}
		w.Fast()
		is(t, "R4: Fast of nil", w, 0, 0)
		w.Timeout()
		is(t, "R4: Timeout of nil", w, 0, 0)
	}
}

// turn does one thing to a window kept both ways; losses come once in so many turns.
func (b *both) turn(t *testing.T, d *dice, losses int) {
	t.Helper()
	full := d.below(3) > 0
	switch d.below(8) {
	case 0:
		if d.below(losses) == 0 {
			b.fast(t)
		}
	case 1:
		if d.below(losses) == 0 {
			b.timeout(t)
		}
	case 2:
		b.acked(t, nothings[d.below(len(nothings))], full)
	case 3:
		b.acked(t, b.w.size-2+d.below(5), full)
	case 4:
		b.acked(t, b.w.mtu-2+d.below(5), full)
	case 5:
		b.acked(t, math.MaxInt-d.sized(30), full)
	default:
		b.acked(t, d.sized(25), full)
	}
}

// thrown is a window with any numbers that New takes.
func thrown(t *testing.T, d *dice) *both {
	t.Helper()
	mtu := []int{128, 1500, 128 + d.below(1373)}[d.below(3)]
	most := min(4*mtu+d.sized(25), greatest)
	return two(t, mtu, most)
}

func TestLongRows(t *testing.T) {
	d := dice(1)
	for range 600 {
		b := thrown(t, &d)
		losses := 1 + d.sized(8)
		for range 500 {
			b.turn(t, &d, losses)
		}
	}
	b := two(t, 128, greatest)
	for range 200000 {
		b.turn(t, &d, 2000)
	}
}

// A few calls in all orders, in rows of six, from a size a little above the threshold.
func TestAllShortRows(t *testing.T) {
	calls := []func(*both){
		func(b *both) { b.acked(t, 1, true) },
		func(b *both) { b.acked(t, 300, true) },
		func(b *both) { b.acked(t, 700, false) },
		func(b *both) { b.acked(t, 0, true) },
		func(b *both) { b.fast(t) },
		func(b *both) { b.timeout(t) },
	}
	for row := range 6 * 6 * 6 * 6 * 6 * 6 {
		b := two(t, 128, 1100)
		b.to(t, 1030)
		b.fast(t)
		b.to(t, 516)
		for range 6 {
			calls[row%6](b)
			row /= 6
		}
		b.acked(t, 1, true)
	}
}

// Windows know nothing of one another, and the same calls lead to the same answers.
func TestWindowsAreApart(t *testing.T) {
	d := dice(2)
	var l []*both
	for range 20 {
		l = append(l, thrown(t, &d))
	}
	for range 4000 {
		l[d.below(20)].turn(t, &d, 20)
		for _, b := range l {
			b.agree(t, "R5: among others")
		}
	}
	a, b := two(t, 128, 4000), two(t, 128, 4000)
	a.steps(t, step{128, true, 384})
	is(t, "R5: the other one", b.r, 256, 4000)
	b.timeout(t)
	is(t, "R5: the first one", a.r, 384, 4000)
	b.to(t, 513)
	a.timeout(t)
	a.to(t, 513)
	// The one's part is not the other's.
	a.steps(t, step{512, true, 513})
	b.steps(t, step{1, true, 513}, step{511, true, 513}, step{1, true, 641})
	a.steps(t, step{1, true, 641})
	refused(t, 0, 0)
	is(t, "R2: behind a New that is refused", a.r, 641, 512)
	is(t, "R2: behind a New that is refused", b.r, 641, 512)
}
