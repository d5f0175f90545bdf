package serial_test

import (
	"math"
	"testing"

	"fairlead/serial"
)

// short and long are types of one's own with the two lengths.
type (
	short uint16
	long  uint32
)

// bits is the length of the numbers of type T.
func bits[T serial.Number]() int {
	n := 0
	for x := ^T(0); x != 0; x >>= 1 {
		n++
	}
	return n
}

// halves is the half of T, as a number without a wrap.
func halves[T serial.Number]() int64 {
	return 1 << (bits[T]() - 1)
}

// distance is how far a must go on, one by one, to reach b.
func distance[T serial.Number](a, b T) int64 {
	d := int64(b) - int64(a)
	if d < 0 {
		d += 2 * halves[T]()
	}
	return d
}

// distances are those at which an answer changes, with their neighbours, and some between them.
func distances[T serial.Number]() []T {
	h := halves[T]()
	l := []T{0, 1, 2, 3, 10, 100, 1000, 30000, 0x5555, T(h / 2), T(h - 1000)}
	for k := int64(-3); k <= 3; k++ {
		l = append(l, T(h+k), T(2*h+k), T(h/2+k), T(3*h/2+k))
	}
	return l
}

// starts are numbers before, at and after the wrap to 0 and the half, each single bit, and others.
func starts[T serial.Number]() []T {
	l := distances[T]()
	for i := range bits[T]() {
		l = append(l, 1<<i, ^T(1<<i))
	}
	return append(l, 4660, 51966)
}

// forAll runs a test with both lengths, and with types of one's own.
func forAll(t *testing.T, of16, ofShort, of32, ofLong func(*testing.T)) {
	t.Run("uint16", of16)
	t.Run("short", ofShort)
	t.Run("uint32", of32)
	t.Run("long", ofLong)
}

func TestExamplesOf32Bits(t *testing.T) {
	for _, x := range []struct {
		what      string
		got, want any
	}{
		{"P3.2: Less(4294967295, 0)", serial.Less[uint32](4294967295, 0), true},
		{"P3.2: Less(0, 2147483647)", serial.Less[uint32](0, 2147483647), true},
		{"P3.2: Less(0, 2147483648)", serial.Less[uint32](0, 2147483648), false},
		{"P3.2: Less(2147483648, 0)", serial.Less[uint32](2147483648, 0), false},
		{"P3.3: Max(4294967295, 0)", serial.Max[uint32](4294967295, 0), uint32(0)},
		{"P3.1: Ahead(4294967290, 4)", serial.Ahead[uint32](4294967290, 4), uint32(10)},
		{"P3.4: In(0, 4294967295, 1)", serial.In[uint32](0, 4294967295, 1), true},
		{"P3.4: In(5, 5, 9)", serial.In[uint32](5, 5, 9), false},
		{"P3.4: In(4, 5, 4294967294)", serial.In[uint32](4, 5, 4294967294), false},
		{"P3.4: In(4, 5, 4294967295)", serial.In[uint32](4, 5, 4294967295), true},
	} {
		if x.got != x.want {
			t.Errorf("%s: %v, not %v", x.what, x.got, x.want)
		}
	}
}

func TestExamplesOf16Bits(t *testing.T) {
	for _, x := range []struct {
		what      string
		got, want any
	}{
		{"P3.2: Less(65535, 0)", serial.Less[uint16](65535, 0), true},
		{"P3.1: Ahead(65530, 4)", serial.Ahead[uint16](65530, 4), uint16(10)},
		{"P3.2: Less(0, 32767)", serial.Less[uint16](0, 32767), true},
		{"P3.2: Less(0, 32768)", serial.Less[uint16](0, 32768), false},
		{"P3.2: Less(32768, 0)", serial.Less[uint16](32768, 0), false},
		{"P3.2: Less(0, 32769)", serial.Less[uint16](0, 32769), false},
		{"P3.2: Less(32769, 0)", serial.Less[uint16](32769, 0), true},
		{"P3.3: Max(65535, 0)", serial.Max[uint16](65535, 0), uint16(0)},
		{"P3.3: Max(0, 65535)", serial.Max[uint16](0, 65535), uint16(0)},
		{"P3.4: In(0, 65535, 1)", serial.In[uint16](0, 65535, 1), true},
		{"P3.4: In(4, 5, 65534)", serial.In[uint16](4, 5, 65534), false},
		{"P3.4: In(4, 5, 65535)", serial.In[uint16](4, 5, 65535), true},
	} {
		if x.got != x.want {
			t.Errorf("%s: %v, not %v", x.what, x.got, x.want)
		}
	}
}

func TestAnswersAreOfTheArgumentsType(t *testing.T) {
	var s short = serial.Ahead(short(65535), 1)
	var l long = serial.Ahead(long(4294967295), 1)
	if s != 2 || l != 2 {
		t.Errorf("P3.1: from the last number to 1: %d and %d, not 2", s, l)
	}
	s, l = serial.Max(short(65535), 0), serial.Max(long(4294967295), 0)
	if s != 0 || l != 0 {
		t.Errorf("P3.3: of the last number and 0: %d and %d, not 0", s, l)
	}
}

func aheadOf[T serial.Number](t *testing.T) {
	for _, a := range starts[T]() {
		for _, b := range starts[T]() {
			if got, want := serial.Ahead(a, b), distance(a, b); int64(got) != want {
				t.Errorf("P3.1: from %d to %d: %d, not %d", a, b, got, want)
			}
		}
		for _, d := range distances[T]() {
			if got := serial.Ahead(a, a+d); got != d {
				t.Errorf("P3.1: from %d to %d: %d, not %d", a, a+d, got, d)
			}
		}
	}
}

func TestAhead(t *testing.T) {
	forAll(t, aheadOf[uint16], aheadOf[short], aheadOf[uint32], aheadOf[long])
}

// afterOf is whether b comes after a, found without the package.
func afterOf[T serial.Number](a, b T) bool {
	d := distance(a, b)
	return d >= 1 && d <= halves[T]()-1
}

func lessOf[T serial.Number](t *testing.T) {
	for _, a := range starts[T]() {
		for _, d := range distances[T]() {
			if got, want := serial.Less(a, a+d), afterOf(a, a+d); got != want {
				t.Errorf("P3.2: %d and %d: %v, not %v", a, a+d, got, want)
			}
		}
		for _, b := range starts[T]() {
			if got, want := serial.Less(a, b), afterOf(a, b); got != want {
				t.Errorf("P3.2: %d and %d: %v, not %v", a, b, got, want)
			}
		}
	}
}

func TestLess(t *testing.T) {
	forAll(t, lessOf[uint16], lessOf[short], lessOf[uint32], lessOf[long])
}

func lessAroundHalfOf[T serial.Number](t *testing.T) {
	half := T(halves[T]())
	for _, a := range starts[T]() {
		for _, x := range []struct {
			b       T
			of, off bool
		}{{a, false, false}, {a + 1, true, false}, {a - 1, false, true}, {a + half - 1, true, false}, {a + half, false, false}, {a + half + 1, false, true}} {
			if got := serial.Less(a, x.b); got != x.of {
				t.Errorf("P3.2: %d and %d: %v", a, x.b, got)
			}
			if got := serial.Less(x.b, a); got != x.off {
				t.Errorf("P3.2: %d and %d: %v", x.b, a, got)
			}
		}
	}
}

func TestLessAroundTheHalf(t *testing.T) {
	forAll(t, lessAroundHalfOf[uint16], lessAroundHalfOf[short], lessAroundHalfOf[uint32], lessAroundHalfOf[long])
}

func maxOf[T serial.Number](t *testing.T) {
	for _, a := range starts[T]() {
		for _, d := range distances[T]() {
			b, want := a+d, a
			if afterOf(a, b) {
				want = b
			}
			if got := serial.Max(a, b); got != want {
				t.Errorf("P3.3: %d and %d: %d, not %d", a, b, got, want)
			}
		}
	}
}

func TestMax(t *testing.T) {
	forAll(t, maxOf[uint16], maxOf[short], maxOf[uint32], maxOf[long])
}

func maxAroundHalfOf[T serial.Number](t *testing.T) {
	half := T(halves[T]())
	for _, a := range starts[T]() {
		for _, x := range []struct{ b, of, off T }{
			{a, a, a},
			{a + 1, a + 1, a + 1},
			{a + half - 1, a + half - 1, a + half - 1},
			{a + half, a, a + half},
			{a + half + 1, a, a},
		} {
			if got := serial.Max(a, x.b); got != x.of {
				t.Errorf("P3.3: %d and %d: %d, not %d", a, x.b, got, x.of)
			}
			if got := serial.Max(x.b, a); got != x.off {
				t.Errorf("P3.3: %d and %d: %d, not %d", x.b, a, got, x.off)
			}
		}
	}
}

func TestMaxAroundTheHalf(t *testing.T) {
	forAll(t, maxAroundHalfOf[uint16], maxAroundHalfOf[short], maxAroundHalfOf[uint32], maxAroundHalfOf[long])
}

// widths are those around each distance of T, none at all, less than none, and more than every distance.
func widths[T serial.Number]() []int {
	l := []int{math.MinInt, math.MinInt + 1, math.MinInt32, -65536, -65535, -2, -1, 0, math.MaxInt32, math.MaxInt - 1, math.MaxInt}
	for _, d := range distances[T]() {
		for k := -1; k <= 1; k++ {
			l = append(l, int(d)+k, -int(d)+k)
		}
	}
	// A width cut to the length of T would be small, or none.
	for k := -2; k <= 2; k++ {
		l = append(l, 1<<16+k, 1<<32+k, 1<<33+k, 1<<48+k)
	}
	return l
}

func inOf[T serial.Number](t *testing.T) {
	all := widths[T]()
	for _, base := range []T{0, 1, 5, T(halves[T]()) - 1, T(halves[T]()), T(halves[T]()) + 1, ^T(0) - 1, ^T(0), 4660} {
		for _, d := range distances[T]() {
			for _, width := range all {
				want := d >= 1 && int64(d) <= int64(width)
				if got := serial.In(base+d, base, width); got != want {
					t.Errorf("P3.4: %d, %d after %d, width %d: %v, not %v", base+d, d, base, width, got, want)
				}
			}
		}
	}
}

func TestIn(t *testing.T) {
	forAll(t, inOf[uint16], inOf[short], inOf[uint32], inOf[long])
}

func inAnyWidthOf[T serial.Number](t *testing.T) {
	half := T(halves[T]())
	most := int(^T(0))
	for _, base := range starts[T]() {
		for _, x := range []struct {
			ahead T
			width int
			want  bool
		}{
			{1, -1, false}, {1, 0, false}, {1, 1, true}, {2, 1, false}, {1, math.MinInt, false},
			{0, -1, false}, {0, 0, false}, {0, 1, false}, {0, most, false}, {0, most + 1, false}, {0, math.MaxInt, false},
			{half - 1, int(half), true}, {half, int(half), true}, {half, int(half) - 1, false}, {half + 1, int(half), false},
			{^T(0), most, true}, {^T(0), most - 1, false}, {^T(0), -1, false}, {^T(0) - 1, most - 1, true},
			{^T(0), most + 1, true}, {1, most + 1, true}, {9, most + 2, true}, {^T(0), math.MaxInt, true}, {1, math.MaxInt, true},
		} {
			if got := serial.In(base+x.ahead, base, x.width); got != x.want {
				t.Errorf("P3.4: %d after %d, width %d: %v, not %v", x.ahead, base, x.width, got, x.want)
			}
		}
	}
}

func TestInAnyWidth(t *testing.T) {
	forAll(t, inAnyWidthOf[uint16], inAnyWidthOf[short], inAnyWidthOf[uint32], inAnyWidthOf[long])
}

func oneIsLessOf[T serial.Number](t *testing.T) {
	for _, a := range starts[T]() {
		for _, b := range starts[T]() {
			of, off := serial.Less(a, b), serial.Less(b, a)
			apart := distance(a, b) == halves[T]()
			switch {
			case a == b || apart:
				if of || off {
					t.Errorf("consequence 1: %d and %d: %v and %v", a, b, of, off)
				}
			case of == off:
				t.Errorf("consequence 1: %d and %d: both %v", a, b, of)
			}
		}
	}
}

func TestOneOfTwoIsLess(t *testing.T) {
	forAll(t, oneIsLessOf[uint16], oneIsLessOf[short], oneIsLessOf[uint32], oneIsLessOf[long])
}

func shiftOf[T serial.Number](t *testing.T) {
	for _, a := range starts[T]() {
		for _, d := range distances[T]() {
			b := a + d
			for _, k := range distances[T]() {
				if serial.Ahead(a+k, b+k) != serial.Ahead(a, b) || serial.Less(a+k, b+k) != serial.Less(a, b) || serial.Max(a+k, b+k) != serial.Max(a, b)+k {
					t.Errorf("consequence 2: %d and %d, with %d added to both: another answer", a, b, k)
				}
				for _, width := range []int{-1, 0, 1, 1000, int(d), int(d) - 1, int(^T(0)), math.MaxInt} {
					if serial.In(b+k, a+k, width) != serial.In(b, a, width) {
						t.Errorf("consequence 2: %d in %d after %d, with %d added to both: another answer", b, width, a, k)
					}
				}
			}
		}
	}
}

func TestAddingToBothChangesNothing(t *testing.T) {
	forAll(t, shiftOf[uint16], shiftOf[short], shiftOf[uint32], shiftOf[long])
}

func sumOf[T serial.Number](t *testing.T) {
	for _, a := range []T{0, 1, T(halves[T]()), ^T(0), ^T(0) - 5, 51966} {
		for _, d := range distances[T]() {
			for _, k := range distances[T]() {
				b, c := a+d, a+d+k
				if serial.Ahead(a, b)+serial.Ahead(b, c) != serial.Ahead(a, c) {
					t.Errorf("consequence 2: from %d over %d to %d: another distance", a, b, c)
				}
				below := int64(d)+int64(k) < halves[T]()
				if below && serial.Less(a, b) && serial.Less(b, c) && !serial.Less(a, c) {
					t.Errorf("consequence 2: %d, %d, %d: not less over the middle one", a, b, c)
				}
			}
		}
	}
}

func TestDistancesAdd(t *testing.T) {
	forAll(t, sumOf[uint16], sumOf[short], sumOf[uint32], sumOf[long])
}

func TestAllDistancesOf16Bits(t *testing.T) {
	for _, a := range []uint16{0, 1, 32767, 32768, 40000, 65535} {
		for d := range 1 << 16 {
			b := a + uint16(d)
			less := d >= 1 && d <= 32767
			want := a
			if less {
				want = b
			}
			if serial.Ahead(a, b) != uint16(d) || serial.Less(a, b) != less || serial.Max(a, b) != want {
				t.Fatalf("P3.1, P3.2, P3.3: %d and %d: %d, %v, %d", a, b, serial.Ahead(a, b), serial.Less(a, b), serial.Max(a, b))
			}
			if serial.In(b, a, d-1) || serial.In(b, a, d) != (d > 0) || serial.In(b, a, d+1) != (d > 0) {
				t.Fatalf("P3.4: %d, %d after %d: wrong at a width around it", b, d, a)
			}
		}
	}
}

func TestAnswersStay(t *testing.T) {
	type answers struct {
		ahead, most uint32
		less, in    bool
	}
	ask := func() answers {
		return answers{serial.Ahead[uint32](4294967290, 4), serial.Max[uint32](4294967290, 4), serial.Less[uint32](4294967290, 4), serial.In[uint32](4, 4294967290, 10)}
	}
	first := ask()
	for _, a := range starts[uint32]() {
		serial.Max(a, 7)
		serial.In(a, 7, math.MaxInt)
	}
	if again := ask(); again != first {
		t.Errorf("R5: %v, and later %v", first, again)
	}
}
