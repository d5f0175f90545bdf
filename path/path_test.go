package path_test

import (
	"math"
	"testing"

	"fairlead/api"
	"fairlead/path"
	"fairlead/rto"
	"fairlead/window"
)

const (
	// ticks is the greatest time that is configured.
	ticks = 1 << 20
	// latest is the latest time that a path is made at, and the latest that counts as it is.
	latest = 1 << 61
	// greatest is the greatest number that a window's most may be.
	greatest = 1 << 24
)

// dice is a row of numbers that is the same each time.
type dice uint64

func (d *dice) below(n int64) int64 {
	*d = *d*6364136223846793005 + 1442695040888963407
	return int64(uint64(*d)>>32) % n
}

// sized is a number of up to so many bits, small ones as often as great ones.
func (d *dice) sized(bits int64) int64 {
	return d.below(1 << d.below(bits+1))
}

// one of a list.
func one[T any](d *dice, l []T) T {
	return l[d.below(int64(len(l)))]
}

// usual is a config in which every number is away from its bounds.
func usual() api.Config {
	return api.Config{
		Paths: 2, Mtu: 200, Streams: 2, SendRoom: 1000, RecvRoom: 1000, Cap: 5000,
		RtoInit: 30, RtoMin: 10, RtoMax: 600, Delay: 5, Life: 100, Beat: 70, Retrans: 3, Tries: 5,
	}
}

// retrans is the usual config with that many failures in a row allowed.
func retrans(n int) api.Config {
	c := usual()
	c.Retrans = n
	return c
}

// worded is a path kept word for word as the chapter has it, over an estimator and a window of the layers below.
type worded struct {
	c         api.Config
	estimator *rto.Rto
	window    *window.Window
	failures  int
	open      bool
	when      int64
}

func (w *worded) active() bool {
	return !(w.failures > w.c.Retrans)
}

func (w *worded) answered() {
	w.failures = 0
	w.open = false
}

func (w *worded) increment() {
	w.failures++
	if w.failures > w.c.Retrans+1 {
		w.failures = w.c.Retrans + 1
	}
}

func (w *worded) timeout() bool {
	before := w.active()
	w.window.Timeout()
	w.estimator.Back()
	w.increment()
	return before && !w.active()
}

func (w *worded) beat(now int64) bool {
	if now < w.when {
		return false
	}
	if w.open {
		w.increment()
		w.estimator.Back()
	}
	w.open = true
	if now > latest {
		now = latest
	}
	w.when = now
	w.when += w.estimator.Value()
	w.when += w.c.Beat
	return true
}

func (w *worded) beaten(sent, now int64) bool {
	if !w.open {
		return false
	}
	if sent < 0 || sent > now {
		return false
	}
	w.answered()
	w.estimator.Sample(now - sent)
	return true
}

// both is a path and the same one kept word for word.
type both struct {
	r *path.Path
	w worded
}

// two is a new path, kept both ways.
func two(t *testing.T, c api.Config, now int64) *both {
	t.Helper()
	r, e := path.New(c, now)
	if r == nil || e != api.OK {
		t.Fatalf("P14.1: New(%v, %d): error %d", c, now, e)
	}
	b := &both{r: r, w: worded{c: c, when: now + c.Beat}}
	b.w.estimator, e = rto.New(c.RtoInit, c.RtoMin, c.RtoMax)
	if e != api.OK {
		t.Fatalf("P12.1: error %d", e)
	}
	b.w.window, e = window.New(c.Mtu, c.Cap)
	if e != api.OK {
		t.Fatalf("P13.1: error %d", e)
	}
	is(t, "P14.1: new", r, told{true, 0, c.RtoInit, 2 * c.Mtu, now + c.Beat})
	b.agree(t, "P14.1: New")
	return b
}

// told is what a path tells of itself.
type told struct {
	active   bool
	failures int
	rto      int64
	size     int
	when     int64
}

func tell(p *path.Path) told {
	return told{p.Active(), p.Failures(), p.Rto(), p.Size(), p.When()}
}

// is fails unless the path tells that.
func is(t *testing.T, what string, p *path.Path, want told) {
	t.Helper()
	// Asked twice, since asking may not change anything.
	for range 2 {
		if got := tell(p); got != want {
			t.Fatalf("%s: %v, not %v", what, got, want)
		}
	}
}

// agree fails unless the path tells what the chapter's words do, within the bounds of its config.
func (b *both) agree(t *testing.T, what string) {
	t.Helper()
	w := &b.w
	is(t, what, b.r, told{w.active(), w.failures, w.estimator.Value(), w.window.Size(), w.when})
	if r := b.r.Rto(); r < w.c.RtoMin || r > w.c.RtoMax {
		t.Fatalf("%s: Rto %d is not from %d to %d", what, r, w.c.RtoMin, w.c.RtoMax)
	}
	if n := b.r.Failures(); n < 0 || n > w.c.Retrans+1 || b.r.Active() != (n <= w.c.Retrans) {
		t.Fatalf("%s: %d failures with Retrans %d, active %v", what, n, w.c.Retrans, b.r.Active())
	}
}

func (b *both) answered(t *testing.T) {
	t.Helper()
	b.r.Answered()
	b.w.answered()
	b.agree(t, "P14.2: Answered")
}

func (b *both) sample(t *testing.T, x int64) {
	t.Helper()
	b.r.Sample(x)
	b.w.estimator.Sample(x)
	b.agree(t, "P14.2: Sample")
}

func (b *both) acked(t *testing.T, n int, full bool) {
	t.Helper()
	b.r.Acked(n, full)
	b.w.window.Acked(n, full)
	b.agree(t, "P14.2: Acked")
}

func (b *both) fast(t *testing.T) {
	t.Helper()
	b.r.Fast()
	b.w.window.Fast()
	b.agree(t, "P14.2: Fast")
}

func (b *both) timeout(t *testing.T) bool {
	t.Helper()
	want := b.w.timeout()
	if got := b.r.Timeout(); got != want {
		t.Fatalf("P14.3: Timeout: %v, with %d failures and Retrans %d", got, b.w.failures, b.w.c.Retrans)
	}
	b.agree(t, "P14.3: Timeout")
	return want
}

func (b *both) beat(t *testing.T, now int64) bool {
	t.Helper()
	when := b.w.when
	want := b.w.beat(now)
	if got := b.r.Beat(now); got != want {
		t.Fatalf("P14.4: Beat(%d): %v, with the next heartbeat at %d", now, got, when)
	}
	b.agree(t, "P14.4: Beat")
	return want
}

func (b *both) beaten(t *testing.T, sent, now int64) bool {
	t.Helper()
	open := b.w.open
	want := b.w.beaten(sent, now)
	if got := b.r.Beaten(sent, now); got != want {
		t.Fatalf("P14.5: Beaten(%d, %d): %v, with an open heartbeat: %v", sent, now, got, open)
	}
	b.agree(t, "P14.5: Beaten")
	return want
}

// next sends the next heartbeat at its time.
func (b *both) next(t *testing.T) int64 {
	t.Helper()
	now := b.r.When()
	if !b.beat(t, now) {
		t.Fatalf("P14.4: Beat(%d): false at the time of the next heartbeat", now)
	}
	return now
}

// failed is a path of that config after so many timeouts, with an open heartbeat or without one.
func failed(t *testing.T, c api.Config, times int, open bool) *both {
	t.Helper()
	b := two(t, c, 5)
	if open {
		b.next(t)
	}
	for range times {
		b.timeout(t)
	}
	return b
}

func TestExamples(t *testing.T) {
	b := two(t, api.Config{RtoInit: 3, RtoMin: 1, RtoMax: 60, Mtu: 128, Cap: 1000, Retrans: 1, Beat: 10}, 5)
	is(t, "P14.1: New", b.r, told{true, 0, 3, 256, 15})
	if b.beat(t, 14) {
		t.Error("P14.4: Beat(14): true")
	}
	is(t, "P14.4: Beat(14)", b.r, told{true, 0, 3, 256, 15})
	if !b.beat(t, 15) {
		t.Error("P14.4: Beat(15): false")
	}
	is(t, "P14.4: Beat(15)", b.r, told{true, 0, 3, 256, 28})
	if !b.beat(t, 28) {
		t.Error("P14.4: Beat(28): false")
	}
	is(t, "P14.4: Beat(28)", b.r, told{true, 1, 6, 256, 44})
	if !b.timeout(t) {
		t.Error("P14.3: Timeout: false")
	}
	is(t, "P14.3: Timeout", b.r, told{false, 2, 12, 128, 44})
	if !b.beaten(t, 28, 30) {
		t.Error("P14.5: Beaten(28, 30): false")
	}
	is(t, "P14.5: Beaten(28, 30)", b.r, told{true, 0, 6, 128, 44})
}

// refused fails unless New returns ErrArg and no path.
func refused(t *testing.T, c api.Config, now int64) {
	t.Helper()
	if p, e := path.New(c, now); p != nil || e != api.ErrArg {
		t.Errorf("P14.1: New(%v, %d): a path %v, error %d", c, now, p != nil, e)
	}
}

// number is one that New looks at: how it is set, values of it that are taken and such that are not.
type number struct {
	name      string
	set       func(c *api.Config, now *int64, x int64)
	good, bad []int64
}

// numbers are those that New looks at, the others being as in the usual config.
func numbers() []number {
	return []number{
		{"RtoInit", func(c *api.Config, _ *int64, x int64) { c.RtoInit = x }, []int64{10, 11, 30, 599, 600}, []int64{9, 601, 0, -1, -30, 1, 5, ticks, ticks + 1}},
		{"RtoMin", func(c *api.Config, _ *int64, x int64) { c.RtoMin = x }, []int64{1, 2, 10, 29, 30}, []int64{0, 31, -1, -10, 600, 601, ticks}},
		{"RtoMax", func(c *api.Config, _ *int64, x int64) { c.RtoMax = x }, []int64{30, 31, 600, ticks - 1, ticks}, []int64{29, ticks + 1, ticks + 2, 0, -1, -600, 9, 10, 1 << 32, 1<<32 + 600}},
		{"Mtu", func(c *api.Config, _ *int64, x int64) { c.Mtu = int(x) }, []int64{128, 129, 200, 1249, 1250}, []int64{127, 1251, 1500, 1501, 0, -1, -200, 1 << 20}},
		{"Cap", func(c *api.Config, _ *int64, x int64) { c.Cap = int(x) }, []int64{800, 801, 5000, greatest - 1, greatest}, []int64{799, greatest + 1, 0, -1, -5000, 200}},
		{"Retrans", func(c *api.Config, _ *int64, x int64) { c.Retrans = int(x) }, []int64{0, 1, 2, 19, 20}, []int64{-1, 21, -2, 22, 100, ticks, -20, math.MinInt32, math.MaxInt32}},
		{"Beat", func(c *api.Config, _ *int64, x int64) { c.Beat = x }, []int64{1, 2, 70, ticks - 1, ticks}, []int64{0, ticks + 1, -1, -2, -70, ticks + 2, latest, 1 << 32, 1<<32 + 70}},
		{"now", func(_ *api.Config, now *int64, x int64) { *now = x }, []int64{0, 1, 5, 1 << 32, latest - 1, latest}, []int64{-1, latest + 1, -2, -5, latest + 2, 1 << 62, -latest, math.MinInt32, -1 << 32}},
	}
}

func TestNew(t *testing.T) {
	for _, x := range numbers() {
		for _, n := range x.good {
			c, now := usual(), int64(5)
			x.set(&c, &now, n)
			two(t, c, now)
		}
		for _, n := range append(x.bad, math.MinInt64, math.MinInt64+1, math.MaxInt64-1, math.MaxInt64) {
			c, now := usual(), int64(5)
			x.set(&c, &now, n)
			refused(t, c, now)
		}
	}
	refused(t, api.Config{}, 0)
}

// What two numbers are refused for, or one of two, is refused.
func TestNewWithTwoNumbersSet(t *testing.T) {
	l := numbers()
	for i := range l {
		for j := range i {
			for _, x := range append(l[i].bad, l[i].good...) {
				for _, y := range l[j].bad {
					c, now := usual(), int64(5)
					l[i].set(&c, &now, x)
					l[j].set(&c, &now, y)
					if i < 3 || l[i].name == "Cap" && l[j].name == "Mtu" {
						// These are held against each other, so that two may be right together.
						taken(t, c, now)
					} else {
						refused(t, c, now)
					}
				}
			}
		}
	}
}

// taken fails unless New takes what the layers below and the chapter take, and nothing else.
func taken(t *testing.T, c api.Config, now int64) {
	t.Helper()
	_, a := rto.New(c.RtoInit, c.RtoMin, c.RtoMax)
	_, b := window.New(c.Mtu, c.Cap)
	right := 0 <= c.Retrans && c.Retrans <= 20 && 1 <= c.Beat && c.Beat <= ticks && 0 <= now && now <= latest
	if a != api.OK || b != api.OK || !right {
		refused(t, c, now)
		return
	}
	two(t, c, now)
}

// All bounds of the times and of the bytes, and one beyond each, in all orders.
func TestNewAsTheLayersBelow(t *testing.T) {
	times := []int64{math.MinInt64, -1, 0, 1, 2, 3, ticks - 1, ticks, ticks + 1, math.MaxInt64}
	for _, first := range times {
		for _, least := range times {
			for _, most := range times {
				c := usual()
				c.RtoInit, c.RtoMin, c.RtoMax = first, least, most
				taken(t, c, 5)
			}
		}
	}
	for _, mtu := range []int{math.MinInt, -1, 0, 127, 128, 129, 1499, 1500, 1501, math.MaxInt} {
		for _, most := range []int{math.MinInt, -1, 0, 511, 512, 513, 5999, 6000, 6001, greatest, greatest + 1, math.MaxInt} {
			c := usual()
			c.Mtu, c.Cap = mtu, most
			taken(t, c, 5)
		}
	}
	for _, n := range []int{math.MinInt, -1, 0, 20, 21, math.MaxInt} {
		for _, beat := range []int64{math.MinInt64, -1, 0, 1, ticks, ticks + 1, math.MaxInt64} {
			for _, now := range []int64{math.MinInt64, -1, 0, latest, latest + 1, math.MaxInt64} {
				c := retrans(n)
				c.Beat = beat
				taken(t, c, now)
			}
		}
	}
}

// What New does not name may be any number.
func TestNewLooksAtNothingElse(t *testing.T) {
	for _, n := range []int{math.MinInt, -1, 0, 1, 5, math.MaxInt} {
		c := usual()
		c.Paths, c.Streams, c.SendRoom, c.RecvRoom, c.Tries = n, n, n, n, n
		c.Delay, c.Life = int64(n), int64(n)
		b := two(t, c, 5)
		for range 5 {
			b.next(t)
			b.timeout(t)
		}
		b.answered(t)
		is(t, "P14.1: New with other numbers", b.r, told{true, 0, 600, 200, 5 + 70 + 5*70 + 30 + 120 + 480 + 600 + 600})
	}
}

// A new path has no open heartbeat: none can be answered, and the first one sent is no failure.
func TestNewHasNoOpenHeartbeat(t *testing.T) {
	for _, now := range []int64{0, 5, latest} {
		b := two(t, usual(), now)
		for _, x := range [][2]int64{{now, now}, {0, now}, {now, now + 70}, {0, 0}} {
			if b.beaten(t, x[0], x[1]) {
				t.Errorf("P14.1: a new path: Beaten(%d, %d): true", x[0], x[1])
			}
		}
		b.next(t)
		is(t, "P14.1: the first heartbeat of a path", b.r, told{true, 0, 30, 400, min(now+70, latest) + 30 + 70})
	}
}

func TestAnswered(t *testing.T) {
	for _, n := range []int{0, 1, 2, 20} {
		for times := range n + 3 {
			for _, open := range []bool{true, false} {
				b := failed(t, retrans(n), times, open)
				was := tell(b.r)
				if was.active != (times <= n) {
					t.Fatalf("P14.3: %d failures with Retrans %d: active %v", times, n, was.active)
				}
				// Twice, since the second has nothing left to do.
				for range 2 {
					b.answered(t)
					is(t, "P14.2: Answered", b.r, told{true, 0, was.rto, was.size, was.when})
				}
				if b.beaten(t, 0, 5) {
					t.Error("P14.2: behind Answered a heartbeat is open")
				}
				b.next(t)
				if b.r.Failures() != 0 || b.r.Rto() != was.rto {
					t.Error("P14.2: behind Answered a heartbeat counts as one that was not answered")
				}
			}
		}
	}
}

// Failures that lie on either side of an answer do not add up.
func TestFailuresCountFromTheAnswer(t *testing.T) {
	b := two(t, retrans(2), 5)
	for range 5 {
		for n := range 2 {
			if b.timeout(t) || b.r.Failures() != n+1 {
				t.Fatalf("P14.6: %d failures behind %d timeouts", b.r.Failures(), n+1)
			}
		}
		b.answered(t)
	}
	b.timeout(t)
	b.timeout(t)
	if !b.timeout(t) || b.r.Active() {
		t.Error("P14.6: active behind Retrans + 1 timeouts in a row")
	}
}

// times are such as an answer may take, and such as it may not.
var times = []int64{
	0, 1, 2, 3, 7, 8, 29, 30, 31, 100, 599, 600, 601, ticks - 1, ticks, ticks + 1, 1 << 32, 1<<32 + 30, latest, latest + 1, math.MaxInt64 - 1, math.MaxInt64,
	-1, -2, -30, -ticks, -1 << 32, -latest, math.MinInt64 + 1, math.MinInt64,
}

func TestSample(t *testing.T) {
	for _, fails := range []int{0, 1, 4} {
		for _, open := range []bool{true, false} {
			for _, first := range times {
				for _, second := range times {
					b := failed(t, usual(), fails, open)
					was := tell(b.r)
					b.sample(t, first)
					b.sample(t, second)
					is(t, "P14.2: Sample turns nothing but the value", b.r, told{was.active, was.failures, b.r.Rto(), was.size, was.when})
					if got := b.beaten(t, 5, 5); got != open {
						t.Errorf("P14.2: an open heartbeat %v, behind a sample %v", open, got)
					}
				}
			}
		}
	}
}

func TestSamplesCountOnByOne(t *testing.T) {
	c := usual()
	c.RtoInit, c.RtoMin, c.RtoMax = 3, 1, 60
	b := two(t, c, 5)
	for _, x := range [][2]int64{{-1, 3}, {8, 24}, {8, 20}, {math.MinInt64, 20}, {0, 24}, {math.MaxInt64, 60}} {
		b.sample(t, x[0])
		is(t, "P14.2: Sample", b.r, told{true, 0, x[1], 400, 75})
	}
}

// bytes are numbers of them, and such as are none.
var bytes = []int{1, 2, 127, 199, 200, 201, 399, 400, 401, 1000, 5000, 5001, greatest, math.MaxInt32, math.MaxInt - 1, math.MaxInt, 0, -1, -2, -200, math.MinInt32, math.MinInt + 1, math.MinInt}

// Each call of the window leaves all but the window as it is.
func TestAckedAndFast(t *testing.T) {
	for _, fails := range []int{0, 1, 4} {
		for _, open := range []bool{true, false} {
			for _, first := range bytes {
				for _, second := range bytes {
					b := failed(t, usual(), fails, open)
					was := tell(b.r)
					b.acked(t, first, true)
					b.acked(t, second, false)
					b.acked(t, second, true)
					b.fast(t)
					b.acked(t, first, second%2 == 0)
					is(t, "P14.2: Acked and Fast turn nothing but the size", b.r, told{was.active, was.failures, was.rto, b.r.Size(), was.when})
					if got := b.beaten(t, 5, 5); got != open {
						t.Errorf("P14.2: an open heartbeat %v, behind Acked and Fast %v", open, got)
					}
				}
			}
		}
	}
}

func TestAckedAndFastStepByStep(t *testing.T) {
	b := two(t, usual(), 5)
	for _, x := range []struct {
		n    int
		full bool
		size int
	}{{0, true, 400}, {-1, true, 400}, {1, true, 401}, {200, false, 401}, {200, true, 601}, {201, true, 801}, {math.MaxInt, true, 1001}, {math.MinInt, true, 1001}} {
		b.acked(t, x.n, x.full)
		is(t, "P14.2: Acked", b.r, told{true, 0, 30, x.size, 75})
	}
	for b.r.Size() < 2000 {
		b.acked(t, 200, true)
	}
	b.fast(t)
	is(t, "P14.2: Fast of 2001", b.r, told{true, 0, 30, 1000, 75})
	b.acked(t, 1, true)
	is(t, "P14.2: Acked at the threshold", b.r, told{true, 0, 30, 1001, 75})
	b.acked(t, 1000, true)
	is(t, "P14.2: Acked above the threshold", b.r, told{true, 0, 30, 1001, 75})
	b.acked(t, 1, false)
	is(t, "P14.2: Acked above the threshold, not full", b.r, told{true, 0, 30, 1001, 75})
	b.acked(t, 1, true)
	is(t, "P14.2: Acked above the threshold", b.r, told{true, 0, 30, 1201, 75})
	b.fast(t)
	is(t, "P14.2: Fast at the floor", b.r, told{true, 0, 30, 800, 75})
}

// All of a great number of bytes counts that counts in the window.
func TestAckedOfManyBytes(t *testing.T) {
	for _, n := range []int{1 << 20, 1<<20 + 1, greatest - 1, greatest, greatest + 1, math.MaxInt} {
		c := usual()
		c.Cap = greatest
		b := two(t, c, 5)
		b.timeout(t)
		for b.r.Size() < 1000 {
			b.acked(t, 200, true)
		}
		b.acked(t, n, false)
		for range 500 {
			b.acked(t, 1, true)
		}
	}
}

func TestTimeout(t *testing.T) {
	for n := range 21 {
		for _, open := range []bool{true, false} {
			b := failed(t, retrans(n), 0, open)
			was, value := tell(b.r), int64(30)
			for i := range n + 4 {
				value = min(2*value, 600)
				if got := b.timeout(t); got != (i == n) {
					t.Errorf("P14.3: Retrans %d: Timeout %d: %v", n, i+1, got)
				}
				is(t, "P14.3: Timeout", b.r, told{i < n, min(i+1, n+1), value, 200, was.when})
			}
			if got := b.beaten(t, 5, 5); got != open {
				t.Errorf("P14.3: an open heartbeat %v, behind timeouts %v", open, got)
			}
		}
	}
}

// A timeout is of the window as well: the size is one packet, the threshold half of what the size was.
func TestTimeoutOfTheWindow(t *testing.T) {
	b := two(t, usual(), 5)
	for b.r.Size() < 2400 {
		b.acked(t, 200, true)
	}
	b.timeout(t)
	is(t, "P14.3: Timeout", b.r, told{true, 1, 60, 200, 75})
	for b.r.Size() < 1200 {
		b.acked(t, 200, true)
	}
	b.acked(t, 200, true)
	is(t, "P14.3: at the threshold", b.r, told{true, 1, 60, 1400, 75})
	b.acked(t, 200, true)
	is(t, "P14.3: above the threshold", b.r, told{true, 1, 60, 1400, 75})
	b.timeout(t)
	is(t, "P14.3: Timeout again", b.r, told{true, 2, 120, 200, 75})
}

// Only the failure by which a path is no longer active is told, not one behind it, and it is told again after an answer.
func TestTimeoutTellsOnceInARow(t *testing.T) {
	for _, n := range []int{0, 1, 20} {
		b := two(t, retrans(n), 5)
		for range 3 {
			told := 0
			for range 3*n + 5 {
				if b.timeout(t) {
					told++
				}
			}
			if told != 1 {
				t.Errorf("P14.3: Retrans %d: told %d times", n, told)
			}
			b.answered(t)
		}
	}
}

// A heartbeat can be the failure by which a path is no longer active: then no timeout behind it is.
func TestTimeoutBehindHeartbeats(t *testing.T) {
	for _, n := range []int{0, 1, 3, 20} {
		b := two(t, retrans(n), 5)
		for range n + 2 {
			b.next(t)
		}
		if b.r.Active() || b.r.Failures() != n+1 {
			t.Errorf("P14.6: Retrans %d: active %v, %d failures", n, b.r.Active(), b.r.Failures())
		}
		if b.timeout(t) || b.timeout(t) {
			t.Errorf("P14.3: Retrans %d: Timeout of a path that is not active: true", n)
		}
		b = two(t, retrans(n), 5)
		for range n + 1 {
			b.next(t)
		}
		if !b.r.Active() || b.r.Failures() != n {
			t.Errorf("P14.6: Retrans %d: active %v, %d failures", n, b.r.Active(), b.r.Failures())
		}
		if !b.timeout(t) || b.r.Active() {
			t.Errorf("P14.3: Retrans %d: Timeout behind %d heartbeats: false", n, n+1)
		}
	}
}

// early fails unless Beat is false at all times ahead of the next heartbeat's, and turns nothing.
func (b *both) early(t *testing.T) {
	t.Helper()
	was := tell(b.r)
	for _, now := range []int64{was.when - 1, was.when - 2, was.when / 2, 1, 0, -1, -2, -was.when, -latest, math.MinInt64 + 1, math.MinInt64} {
		if now < was.when && b.beat(t, now) {
			t.Errorf("P14.4: Beat(%d): true, with the next heartbeat at %d", now, was.when)
		}
		is(t, "P14.4: Beat ahead of time", b.r, was)
	}
}

func TestBeat(t *testing.T) {
	for _, start := range []int64{0, 1, 5, 1 << 32, latest - 100, latest} {
		for _, late := range []int64{0, 1, 2, 99, 1 << 21} {
			b := two(t, usual(), start)
			b.early(t)
			// Not answered, the first is a failure when the second is sent.
			now := start + 70 + late
			if !b.beat(t, now) {
				t.Errorf("P14.4: Beat(%d): false", now)
			}
			when := min(now, latest) + 30 + 70
			is(t, "P14.4: the first heartbeat", b.r, told{true, 0, 30, 400, when})
			b.early(t)
			now = when + late
			if !b.beat(t, now) {
				t.Errorf("P14.4: Beat(%d): false", now)
			}
			when = min(now, latest) + 60 + 70
			is(t, "P14.4: the second heartbeat", b.r, told{true, 1, 60, 400, when})
			// Answered, it is none.
			b.answered(t)
			b.early(t)
			now = when + late
			if !b.beat(t, now) {
				t.Errorf("P14.4: Beat(%d): false", now)
			}
			is(t, "P14.4: a heartbeat behind an answered one", b.r, told{true, 0, 60, 400, min(now, latest) + 60 + 70})
			b.early(t)
		}
	}
}

// What counts as 2^61 does so for the next heartbeat's time alone, not for whether this one is due.
func TestBeatAtTheLatestTimes(t *testing.T) {
	for _, x := range [][2]int64{
		{latest - 2, latest - 2}, {latest - 1, latest - 1}, {latest, latest}, {latest + 1, latest}, {latest + 2, latest}, {latest + 69, latest}, {latest + 70, latest},
		{latest + 71, latest}, {latest + 1000, latest}, {1 << 62, latest}, {math.MaxInt64 - 100, latest}, {math.MaxInt64 - 1, latest}, {math.MaxInt64, latest},
	} {
		b := two(t, usual(), 5)
		if !b.beat(t, x[0]) {
			t.Errorf("P14.4: Beat(%d): false", x[0])
		}
		is(t, "P14.4: late", b.r, told{true, 0, 30, 400, x[1] + 100})
		for _, now := range []int64{latest + 99, latest + 98, latest, latest - 1} {
			if now < x[1]+100 && b.beat(t, now) {
				t.Errorf("P14.4: Beat(%d): true, with the next heartbeat at %d", now, x[1]+100)
			}
		}
		for i, rto := range []int64{60, 120, 240, 480, 600, 600} {
			now := []int64{math.MaxInt64, latest + 2000}[i%2]
			if !b.beat(t, now) {
				t.Errorf("P14.4: Beat(%d): false", now)
			}
			is(t, "P14.4: late again", b.r, told{i < 3, min(i+1, 4), rto, 400, latest + rto + 70})
		}
	}
	c := usual()
	c.RtoInit, c.RtoMin, c.RtoMax, c.Beat = ticks, ticks, ticks, ticks
	b := two(t, c, latest)
	is(t, "P14.1: the latest time of all", b.r, told{true, 0, ticks, 400, latest + ticks})
	for i := range 6 {
		if b.beat(t, b.r.When()-1) || !b.beat(t, math.MaxInt64) {
			t.Error("P14.4: Beat at the latest times")
		}
		is(t, "P14.4: the latest time of all", b.r, told{i < 4, min(i, 4), ticks, 400, latest + ticks + ticks})
	}
}

// Open heartbeats are failures up to the limit, and each doubles the value up to its most.
func TestBeatInARow(t *testing.T) {
	for n := range 21 {
		for _, fails := range []int{0, 1, n, n + 1, n + 2} {
			b := failed(t, retrans(n), fails, false)
			value, failures, size := b.r.Rto(), min(fails, n+1), b.r.Size()
			now := b.next(t)
			is(t, "P14.4: the first of a row", b.r, told{failures <= n, failures, value, size, now + value + 70})
			for range n + 4 {
				now = b.next(t)
				value, failures = min(2*value, 600), min(failures+1, n+1)
				is(t, "P14.4: in a row", b.r, told{failures <= n, failures, value, size, now + value + 70})
			}
		}
	}
}

// Beat does not sample: the value behind it comes from the config and from Back alone.
func TestBeatAfterSamples(t *testing.T) {
	b := two(t, usual(), 5)
	b.sample(t, 20)
	is(t, "P14.2: Sample(20)", b.r, told{true, 0, 60, 400, 75})
	now := b.next(t)
	is(t, "P14.4: Beat", b.r, told{true, 0, 60, 400, now + 60 + 70})
	b.sample(t, 20)
	is(t, "P14.2: Sample leaves the time of the next heartbeat", b.r, told{true, 0, 50, 400, now + 60 + 70})
	now = b.next(t)
	is(t, "P14.4: Beat", b.r, told{true, 1, 100, 400, now + 100 + 70})
}

func TestBeaten(t *testing.T) {
	for _, fails := range []int{0, 1, 3, 4, 5} {
		for _, x := range [][3]int64{ // sent, now, the value behind it
			{75, 75, 10}, {75, 76, 10}, {75, 80, 15}, {75, 105, 90}, {75, 275, 600}, {0, 0, 10}, {0, 20, 60}, {1, 21, 60}, {74, 94, 60}, {76, 96, 60}, {900, 920, 60},
			{latest, latest + 20, 60}, {math.MaxInt64 - 20, math.MaxInt64, 60}, {math.MaxInt64, math.MaxInt64, 10}, {0, math.MaxInt64, 600}, {1, math.MaxInt64, 600}, {0, ticks, 600},
		} {
			b := failed(t, usual(), fails, true)
			was := tell(b.r)
			if !b.beaten(t, x[0], x[1]) {
				t.Errorf("P14.5: Beaten(%d, %d): false", x[0], x[1])
			}
			is(t, "P14.5: Beaten", b.r, told{true, 0, x[2], was.size, was.when})
			// It is answered: not again, and the next one sent is no failure.
			for range 2 {
				if b.beaten(t, x[0], x[1]) {
					t.Errorf("P14.5: Beaten(%d, %d) again: true", x[0], x[1])
				}
				is(t, "P14.5: Beaten again", b.r, told{true, 0, x[2], was.size, was.when})
			}
			now := b.next(t)
			is(t, "P14.5: Beat behind Beaten", b.r, told{true, 0, x[2], was.size, now + x[2] + 70})
		}
	}
}

// never are times of a heartbeat and of its answer that cannot be.
var never = [][2]int64{
	{1, 0}, {2, 1}, {76, 75}, {75, 74}, {75, 0}, {75, -1}, {latest, latest - 1}, {latest + 1, latest}, {math.MaxInt64, math.MaxInt64 - 1}, {math.MaxInt64, 0}, {math.MaxInt64, math.MinInt64},
	{-1, -1}, {-1, 0}, {-1, 75}, {-1, math.MaxInt64}, {-2, -1}, {-1, -2}, {-75, 75}, {0, -1}, {0, math.MinInt64}, {1, math.MinInt64}, {-latest, 5},
	{math.MinInt64, math.MinInt64}, {math.MinInt64, 0}, {math.MinInt64, -1}, {math.MinInt64, 75}, {math.MinInt64, math.MaxInt64}, {math.MinInt64 + 1, math.MaxInt64}, {math.MinInt64 + 1, math.MinInt64},
}

// What is refused turns nothing, and leaves the heartbeat open.
func TestBeatenAtTimesThatCannotBe(t *testing.T) {
	for _, fails := range []int{0, 1, 3, 4, 5} {
		for _, open := range []bool{true, false} {
			b := failed(t, usual(), fails, open)
			was := tell(b.r)
			for _, x := range never {
				if b.beaten(t, x[0], x[1]) {
					t.Errorf("P14.5: Beaten(%d, %d): true", x[0], x[1])
				}
				is(t, "R2: Beaten refused", b.r, was)
			}
			if got := b.beaten(t, 75, 95); got != open {
				t.Errorf("P14.5: an open heartbeat %v, behind refused calls: %v", open, got)
			}
			if open {
				// The first sample: nothing refused was one.
				is(t, "P14.5: Beaten", b.r, told{true, 0, 60, was.size, was.when})
			} else {
				is(t, "P14.5: Beaten without an open heartbeat", b.r, was)
			}
		}
	}
}

// With no heartbeat open nothing is sampled, whatever the times.
func TestBeatenWithNoneOpen(t *testing.T) {
	for _, fails := range []int{0, 1, 4} {
		for _, sent := range []int64{0, 1, 75, latest, math.MaxInt64} {
			for _, now := range []int64{0, 1, 75, 80, latest, math.MaxInt64} {
				b := failed(t, usual(), fails, false)
				was := tell(b.r)
				if b.beaten(t, sent, now) {
					t.Errorf("P14.5: Beaten(%d, %d) with no heartbeat open: true", sent, now)
				}
				is(t, "P14.5: no heartbeat is open", b.r, was)
				b = failed(t, usual(), fails, true)
				b.answered(t)
				was = tell(b.r)
				if b.beaten(t, sent, now) {
					t.Errorf("P14.5: Beaten(%d, %d) behind Answered: true", sent, now)
				}
				is(t, "P14.5: Beaten behind Answered", b.r, was)
			}
		}
	}
}

// However many heartbeats were sent, one answer closes them.
func TestOneAnswerForManyHeartbeats(t *testing.T) {
	b := two(t, usual(), 5)
	var sent int64
	for range 7 {
		sent = b.next(t)
	}
	when := b.r.When()
	is(t, "P14.4: seven heartbeats", b.r, told{false, 4, 600, 400, when})
	if !b.beaten(t, sent, sent+20) || b.beaten(t, sent, sent+20) {
		t.Error("P14.5: Beaten behind many heartbeats")
	}
	is(t, "P14.5: Beaten", b.r, told{true, 0, 60, 400, when})
}

// Retrans + 1 failures in a row, each a timeout or an open heartbeat, make a path inactive, and any answer makes it active again.
func TestInactiveByARowOfFailures(t *testing.T) {
	d := dice(3)
	for round := range 600 {
		n := round % 21
		b := two(t, retrans(n), 5)
		b.next(t)
		for i := range n + 1 {
			if !b.r.Active() || b.r.Failures() != i {
				t.Fatalf("P14.6: Retrans %d: active %v and %d failures behind %d", n, b.r.Active(), b.r.Failures(), i)
			}
			// Neither of these is a failure nor an answer.
			b.acked(t, int(d.sized(12)), true)
			b.fast(t)
			b.sample(t, d.sized(10))
			b.beaten(t, 1, 0)
			b.beat(t, b.r.When()-1)
			if d.below(2) == 0 {
				b.timeout(t)
			} else {
				b.next(t)
			}
		}
		if b.r.Active() || b.r.Failures() != n+1 {
			t.Fatalf("P14.6: Retrans %d: active %v and %d failures behind %d", n, b.r.Active(), b.r.Failures(), n+1)
		}
		if round%2 == 0 {
			b.answered(t)
		} else if !b.beaten(t, 5, 5+d.sized(10)) {
			t.Fatal("P14.5: Beaten: false")
		}
		if !b.r.Active() || b.r.Failures() != 0 {
			t.Fatalf("P14.6: Retrans %d: active %v and %d failures behind an answer", n, b.r.Active(), b.r.Failures())
		}
	}
}

func TestNil(t *testing.T) {
	var p *path.Path
	nothing := told{}
	is(t, "P14.1: nil", p, nothing)
	for range 2 {
		p.Answered()
		is(t, "R4: Answered of nil", p, nothing)
		for _, x := range times {
			p.Sample(x)
			is(t, "R4: Sample of nil", p, nothing)
			if p.Beat(x) {
				t.Errorf("R4: Beat(%d) of nil: true", x)
			}
			for _, y := range times {
				if p.Beaten(x, y) {
					t.Errorf("R4: Beaten(%d, %d) of nil: true", x, y)
				}
			}
			is(t, "R4: Beat and Beaten of nil", p, nothing)
		}
		for _, n := range bytes {
			p.Acked(n, true)
			p.Acked(n, false)
			is(t, "R4: Acked of nil", p, nothing)
		}
		p.Fast()
		is(t, "R4: Fast of nil", p, nothing)
		if p.Timeout() {
			t.Error("R4: Timeout of nil: true")
		}
		is(t, "R4: Timeout of nil", p, nothing)
	}
}

// thrown is a path with any numbers that New takes.
func thrown(t *testing.T, d *dice) *both {
	t.Helper()
	c := usual()
	c.RtoMin = 1 + d.sized(10)
	c.RtoInit = c.RtoMin + d.sized(10)
	c.RtoMax = c.RtoInit + d.sized(10)
	c.Mtu = int(one(d, []int64{128, 1500, 128 + d.below(1373)}))
	c.Cap = min(4*c.Mtu+int(d.sized(14)), greatest)
	c.Retrans = int(one(d, []int64{0, 1, 20, d.below(21), d.below(4)}))
	c.Beat = 1 + d.sized(12)
	return two(t, c, one(d, []int64{0, d.sized(30), latest - d.sized(20), latest}))
}

// turn does one thing to a path kept both ways.
func (b *both) turn(t *testing.T, d *dice) {
	t.Helper()
	when := b.r.When()
	switch d.below(16) {
	case 0:
		b.answered(t)
	case 1:
		b.sample(t, d.sized(12))
	case 2:
		b.sample(t, one(d, times))
	case 3:
		b.acked(t, int(d.sized(14)), d.below(3) > 0)
	case 4:
		b.acked(t, one(d, bytes), d.below(3) > 0)
	case 5:
		b.fast(t)
	case 6, 7, 8:
		b.timeout(t)
	case 9, 10:
		b.beat(t, when+d.below(3)-1)
	case 11:
		b.beat(t, when+d.sized(20))
	case 12:
		// Few, since all that comes behind has late times too.
		if d.below(100) == 0 {
			b.beat(t, one(d, []int64{latest - 1, latest, latest + 1, latest + d.sized(22), math.MaxInt64}))
		} else {
			b.beat(t, one(d, times[len(times)-8:]))
		}
	case 13:
		sent := d.sized(60)
		b.beaten(t, sent, sent+d.sized(12))
	case 14:
		x := one(d, never)
		b.beaten(t, x[0], x[1])
	default:
		b.beaten(t, when-1+d.below(3), when)
	}
}

func TestLongRows(t *testing.T) {
	d := dice(1)
	for range 1000 {
		b := thrown(t, &d)
		for range 300 {
			b.turn(t, &d)
		}
	}
	b := two(t, usual(), 5)
	for range 100000 {
		b.turn(t, &d)
	}
}

// A few calls in all orders, in rows of six.
func TestAllShortRows(t *testing.T) {
	calls := []func(*both){
		func(b *both) { b.timeout(t) },
		func(b *both) { b.beat(t, b.r.When()) },
		func(b *both) { b.beat(t, b.r.When()-1) },
		func(b *both) { b.beaten(t, 20, 40) },
		func(b *both) { b.beaten(t, 40, 20) },
		func(b *both) { b.answered(t) },
		func(b *both) { b.sample(t, 25) },
	}
	for row := range 7 * 7 * 7 * 7 * 7 * 7 {
		b := two(t, retrans(1), 5)
		for range 6 {
			calls[row%7](b)
			row /= 7
		}
		b.beaten(t, 0, 9)
	}
}

// Paths know nothing of one another, and the same calls lead to the same answers.
func TestPathsAreApart(t *testing.T) {
	d := dice(2)
	var l []*both
	for range 20 {
		l = append(l, thrown(t, &d))
	}
	for range 4000 {
		one(&d, l).turn(t, &d)
		for _, b := range l {
			b.agree(t, "R5: among others")
		}
	}
	// Of the same config, and yet apart in each of the things that a path knows.
	a, b := two(t, usual(), 5), two(t, usual(), 5)
	a.next(t)
	a.timeout(t)
	is(t, "R5: the other one", b.r, told{true, 0, 30, 400, 75})
	if b.beaten(t, 5, 5) {
		t.Error("R5: the other one's heartbeat is open")
	}
	b.acked(t, 200, true)
	b.sample(t, 100)
	is(t, "R5: the first one", a.r, told{true, 1, 60, 200, 175})
	b.answered(t)
	if !a.beaten(t, 75, 95) {
		t.Error("R5: the first one's heartbeat is not open")
	}
	is(t, "R5: the other one", b.r, told{true, 0, 300, 600, 75})
	c := usual()
	c.Beat = 0
	refused(t, c, 5)
	is(t, "R2: behind a New that is refused", a.r, told{true, 0, 60, 200, 175})
	is(t, "R2: behind a New that is refused", b.r, told{true, 0, 300, 600, 75})
}
