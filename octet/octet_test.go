package octet_test

import (
	"bytes"
	"math"
	"testing"

	"fairlead/api"
	"fairlead/octet"
)

var sizes = []int{1, 2, 4, 8}

var noSizes = []int{math.MinInt, math.MinInt + 1, -1 << 32, -8, -4, -2, -1, 0, 3, 5, 6, 7, 9, 10, 12, 16, 32, 64, 1<<32 + 4, 1 << 62, math.MaxInt - 1, math.MaxInt}

// numbers are those at which a byte more or fewer is needed, with others between them.
func numbers() []uint64 {
	l := []uint64{0, 258, 0x0102030405060708, 0xfedcba9876543210, 0x8000000000000001, 0xff00ff00ff00ff00}
	for bit := range 64 {
		p := uint64(1) << bit
		l = append(l, p-1, p, p+1, math.MaxUint64-p)
	}
	return l
}

// digits are the last size digits of x in base 256, by division.
func digits(x uint64, size int) []byte {
	l := make([]byte, size)
	for i := size - 1; i >= 0; i-- {
		l[i] = byte(x % 256)
		x /= 256
	}
	return l
}

func fits(x uint64, size int) bool {
	return size == 8 || x < 1<<(8*size)
}

// row is n bytes none of which is 0 and which differ from their neighbours.
func row(n int) []byte {
	l := make([]byte, n)
	for i := range l {
		l[i] = byte(i%251) + 3
	}
	return l
}

// roomy is b as a slice with as many bytes more of capacity, and all of its memory.
func roomy(b []byte, more int) (part, whole []byte) {
	whole = append(append(make([]byte, 0, len(b)+more), b...), bytes.Repeat([]byte{0xa5}, more)...)
	return whole[:len(b)], whole
}

func TestGetExamples(t *testing.T) {
	b := []byte{1, 2, 3, 4, 5, 6, 7, 8, 0xff, 0xfe}
	for _, x := range []struct {
		at, size int
		want     uint64
	}{
		{0, 1, 1}, {9, 1, 0xfe}, {8, 1, 0xff},
		{0, 2, 0x0102}, {1, 2, 515}, {8, 2, 0xfffe},
		{0, 4, 0x01020304}, {6, 4, 0x0708fffe}, {3, 4, 0x04050607},
		{0, 8, 0x0102030405060708}, {1, 8, 0x02030405060708ff}, {2, 8, 0x030405060708fffe},
	} {
		if got, e := octet.Get(b, x.at, x.size); got != x.want || e != api.OK {
			t.Errorf("P1.1: at %d, size %d: %#x, %d", x.at, x.size, got, e)
		}
	}
}

func TestGetOfAllOnes(t *testing.T) {
	b := bytes.Repeat([]byte{0xff}, 8)
	for _, x := range []struct {
		size int
		want uint64
	}{{1, math.MaxUint8}, {2, math.MaxUint16}, {4, math.MaxUint32}, {8, math.MaxUint64}} {
		if got, e := octet.Get(b, 0, x.size); got != x.want || e != api.OK {
			t.Errorf("P1.1: size %d: %#x, %d", x.size, got, e)
		}
	}
}

// Of each short length, each place from well ahead of the bytes to well behind them.
func TestGetAtEachPlace(t *testing.T) {
	for length := range 20 {
		b := row(length)
		for _, size := range sizes {
			for at := -10; at < length+10; at++ {
				var want uint64
				wanted := api.ErrArg
				if at >= 0 && at+size <= length {
					wanted = api.OK
					for _, d := range b[at : at+size] {
						want = want*256 + uint64(d)
					}
				}
				if got, e := octet.Get(b, at, size); got != want || e != wanted {
					t.Errorf("P1.1: of %d bytes at %d, size %d: %#x, %d", length, at, size, got, e)
				}
			}
		}
	}
}

func TestGetOfWrongSizes(t *testing.T) {
	b := row(200)
	for _, size := range noSizes {
		for _, at := range []int{-1, 0, 1, 100, 199, 200, 201, math.MaxInt, math.MinInt} {
			if got, e := octet.Get(b, at, size); got != 0 || e != api.ErrArg {
				t.Errorf("P1.1: at %d, size %d: %#x, %d", at, size, got, e)
			}
		}
	}
	for size := 9; size < 200; size++ {
		if got, e := octet.Get(b, 0, size); got != 0 || e != api.ErrArg {
			t.Errorf("P1.1: size %d: %#x, %d", size, got, e)
		}
	}
}

func TestGetOfFarPlaces(t *testing.T) {
	for _, b := range [][]byte{nil, {}, row(1), row(9), row(70000)} {
		for _, size := range sizes {
			for k := range 20 {
				for _, at := range []int{math.MaxInt - k, math.MinInt + k, -1 - k, len(b) + k, 1<<32 + k, 1<<62 + k, -1<<32 + k} {
					if got, e := octet.Get(b, at, size); got != 0 || e != api.ErrArg {
						t.Errorf("P1.1: of %d bytes at %d, size %d: %#x, %d", len(b), at, size, got, e)
					}
				}
			}
		}
	}
}

// The bytes within the capacity are none of b.
func TestGetKeepsToTheLength(t *testing.T) {
	part, _ := roomy(row(5), 20)
	for _, x := range []struct{ at, size int }{{5, 1}, {4, 2}, {2, 4}, {0, 8}, {5, 8}, {6, 1}} {
		if got, e := octet.Get(part, x.at, x.size); got != 0 || e != api.ErrArg {
			t.Errorf("P1.1: at %d, size %d: %#x, %d", x.at, x.size, got, e)
		}
	}
}

func TestPutExamples(t *testing.T) {
	for _, x := range []struct {
		b    string
		x    uint64
		size int
		want string
	}{
		{"\xff", 258, 2, "\xff\x01\x02"},
		{"\xff", 258, 3, "\xff"},
		{"\xff", 258, 1, "\xff\x02"},
		{"", 258, 4, "\x00\x00\x01\x02"},
		{"", 0, 8, "\x00\x00\x00\x00\x00\x00\x00\x00"},
		{"ab", 0x0102030405060708, 8, "ab\x01\x02\x03\x04\x05\x06\x07\x08"},
		{"ab", 0x0102030405060708, 4, "ab\x05\x06\x07\x08"},
		{"ab", 0x0102030405060708, 2, "ab\x07\x08"},
		{"ab", 0x0102030405060708, 1, "ab\x08"},
		{"ab", math.MaxUint64, 8, "ab\xff\xff\xff\xff\xff\xff\xff\xff"},
		{"", 256, 1, "\x00"},
		{"", 1 << 32, 4, "\x00\x00\x00\x00"},
	} {
		if got := octet.Put([]byte(x.b), x.x, x.size); string(got) != x.want {
			t.Errorf("P1.2: of %q, %#x, size %d: %q", x.b, x.x, x.size, got)
		}
	}
}

func TestPutOfEachNumber(t *testing.T) {
	for _, before := range [][]byte{nil, {}, row(1), row(7), row(300)} {
		for _, size := range sizes {
			for _, x := range numbers() {
				want := string(before) + string(digits(x, size))
				if got := octet.Put(before, x, size); string(got) != want {
					t.Fatalf("P1.2: of %d bytes, %#x, size %d: %x", len(before), x, size, got)
				}
			}
		}
	}
}

func TestPutOfWrongSizes(t *testing.T) {
	for _, before := range [][]byte{nil, {}, row(1), row(9)} {
		for _, size := range noSizes {
			if got := octet.Put(before, math.MaxUint64, size); string(got) != string(before) {
				t.Errorf("P1.2: of %d bytes, size %d: %x", len(before), size, got)
			}
		}
	}
}

func TestGetReadsWhatPutWrote(t *testing.T) {
	for _, before := range []int{0, 1, 5} {
		for _, size := range sizes {
			for _, x := range numbers() {
				b := octet.Put(octet.Put(row(before), x, size), 0xab, 1)
				want := x
				if size < 8 {
					want = x % (1 << (8 * size))
				}
				if got, e := octet.Get(b, before, size); got != want || e != api.OK {
					t.Fatalf("P1.1, P1.2: %#x behind %d bytes, size %d: %#x, %d", x, before, size, got, e)
				}
			}
		}
	}
}

func TestEncodingsHaveTheOrderOfNumbers(t *testing.T) {
	for _, size := range sizes {
		for _, x := range numbers() {
			for _, y := range numbers() {
				if !fits(x, size) || !fits(y, size) {
					continue
				}
				want := 0
				if x < y {
					want = -1
				} else if x > y {
					want = 1
				}
				if got := bytes.Compare(octet.Put(nil, x, size), octet.Put(nil, y, size)); got != want {
					t.Fatalf("P1.2: %#x and %#x in size %d: %d", x, y, size, got)
				}
			}
		}
	}
}

func TestCutExamples(t *testing.T) {
	b := []byte{1, 2, 3}
	for _, x := range []struct {
		at, n int
		want  string
		ok    bool
	}{
		{3, 0, "", true}, {0, 0, "", true}, {1, 0, "", true},
		{0, 3, "\x01\x02\x03", true}, {0, 1, "\x01", true}, {1, 2, "\x02\x03", true}, {2, 1, "\x03", true},
		{2, 2, "", false}, {-1, 1, "", false}, {-1, 0, "", false}, {4, 0, "", false}, {3, 1, "", false}, {0, 4, "", false},
		{1, -1, "", false}, {3, -3, "", false}, {-1, -1, "", false}, {4, -1, "", false},
	} {
		got, ok := octet.Cut(b, x.at, x.n)
		if string(got) != x.want || ok != x.ok || !ok && got != nil {
			t.Errorf("P1.3: at %d, %d bytes: %v, %v", x.at, x.n, got, ok)
		}
	}
}

func TestCutAtEachPlace(t *testing.T) {
	for length := range 14 {
		b := row(length)
		for at := -4; at < length+4; at++ {
			for n := -4; n < length+4; n++ {
				want, wanted := "", false
				if at >= 0 && n >= 0 && at+n <= length {
					want, wanted = string(b[at:at+n]), true
				}
				if got, ok := octet.Cut(b, at, n); string(got) != want || ok != wanted {
					t.Errorf("P1.3: of %d bytes at %d, %d bytes: %v, %v", length, at, n, got, ok)
				}
			}
		}
	}
}

func TestCutOfNothing(t *testing.T) {
	for _, b := range [][]byte{nil, {}} {
		if got, ok := octet.Cut(b, 0, 0); len(got) != 0 || !ok {
			t.Errorf("P1.3: %v, %v", got, ok)
		}
		if got, ok := octet.Cut(b, 0, 1); got != nil || ok {
			t.Errorf("P1.3: %v, %v", got, ok)
		}
	}
}

func TestCutOfFarPlaces(t *testing.T) {
	far := []int{math.MaxInt, math.MaxInt - 1, math.MaxInt - 9, 1 << 62, 1<<62 + 5, 1 << 32, math.MinInt, math.MinInt + 1, math.MinInt + 9, -1 << 32}
	b := row(9)
	for _, x := range far {
		for _, y := range append([]int{-1, 0, 1, 5, 9, 10}, far...) {
			if got, ok := octet.Cut(b, x, y); got != nil || ok {
				t.Errorf("P1.3: at %d, %d bytes: %v, %v", x, y, got, ok)
			}
			if got, ok := octet.Cut(b, y, x); got != nil || ok {
				t.Errorf("P1.3: at %d, %d bytes: %v, %v", y, x, got, ok)
			}
		}
	}
}

func TestCutKeepsToTheLength(t *testing.T) {
	part, _ := roomy(row(5), 20)
	for _, x := range []struct{ at, n int }{{0, 6}, {5, 1}, {6, 0}, {4, 2}, {25, 0}} {
		if got, ok := octet.Cut(part, x.at, x.n); got != nil || ok {
			t.Errorf("P1.3: at %d, %d bytes: %v, %v", x.at, x.n, got, ok)
		}
	}
}

func TestRoundExamples(t *testing.T) {
	for _, x := range []struct{ n, want int }{
		{0, 0}, {1, 4}, {2, 4}, {3, 4}, {4, 4}, {5, 8}, {7, 8}, {8, 8}, {9, 12},
		{65535, 65536}, {65536, 65536}, {65537, 65540},
		{1<<31 - 1, 1 << 31}, {1<<32 - 1, 1 << 32}, {1 << 32, 1 << 32}, {1<<32 + 1, 1<<32 + 4},
		{1<<62 - 4, 1<<62 - 4}, {1<<62 - 3, 1 << 62}, {1<<62 - 1, 1 << 62}, {1 << 62, 1 << 62},
		{1<<62 + 1, 0}, {1<<62 + 2, 0}, {1<<62 + 4, 0}, {math.MaxInt - 3, 0}, {math.MaxInt - 2, 0}, {math.MaxInt, 0},
		{-1, 0}, {-2, 0}, {-3, 0}, {-4, 0}, {-5, 0}, {-1 << 32, 0}, {-1 << 62, 0}, {math.MinInt, 0}, {math.MinInt + 1, 0},
	} {
		if got := octet.Round(x.n); got != x.want {
			t.Errorf("P1.4: Round(%d): %d", x.n, got)
		}
	}
}

func TestRoundOfEachLength(t *testing.T) {
	for n := range 5000 {
		want := n
		for want%4 != 0 {
			want++
		}
		if got := octet.Round(n); got != want {
			t.Errorf("P1.4: Round(%d): %d", n, got)
		}
	}
}

func TestPadExamples(t *testing.T) {
	for _, x := range []struct{ b, want string }{
		{"", ""},
		{"\x01", "\x01\x00\x00\x00"},
		{"\x01\x02", "\x01\x02\x00\x00"},
		{"\x01\x02\x03", "\x01\x02\x03\x00"},
		{"\x01\x02\x03\x04", "\x01\x02\x03\x04"},
		{"\x01\x02\x03\x04\x05", "\x01\x02\x03\x04\x05\x00\x00\x00"},
		{"\x00", "\x00\x00\x00\x00"},
	} {
		if got := octet.Pad([]byte(x.b)); string(got) != x.want {
			t.Errorf("P1.4: Pad of %q: %q", x.b, got)
		}
	}
	if got := octet.Pad(nil); len(got) != 0 {
		t.Errorf("P1.4: Pad of nil: %v", got)
	}
}

func TestPadOfEachLength(t *testing.T) {
	for n := range 1500 {
		b := row(n)
		got := octet.Pad(b)
		if len(got) != octet.Round(n) || len(got) > n+3 {
			t.Fatalf("P1.4: Pad of %d bytes has %d", n, len(got))
		}
		if !bytes.Equal(got[:n], b) || bytes.Count(got[n:], []byte{0}) != len(got)-n {
			t.Fatalf("P1.4: Pad of %d bytes: %v", n, got)
		}
		if again := octet.Pad(got); !bytes.Equal(again, got) {
			t.Fatalf("P1.4: Pad of a Pad of %d bytes: %v", n, again)
		}
	}
}

// results are what the calls that return bytes return for b.
func results(b []byte) [][]byte {
	var l [][]byte
	for _, size := range []int{1, 2, 4, 8, 0, 3, -1} {
		l = append(l, octet.Put(b, 0x0102030405060708, size))
	}
	for at := range len(b) + 1 {
		for n := range len(b) - at + 1 {
			got, _ := octet.Cut(b, at, n)
			l = append(l, got)
		}
	}
	return append(l, octet.Pad(b))
}

func copies(l [][]byte) [][]byte {
	out := make([][]byte, len(l))
	for i, b := range l {
		out[i] = append([]byte{}, b...)
	}
	return out
}

func overwrite(b []byte) {
	b = b[:cap(b)]
	for i := range b {
		b[i] ^= 0xff
	}
}

// same says whether two lists have the same bytes, but for the place but.
func same(a, b [][]byte, but int) bool {
	for i := range a {
		if i != but && !bytes.Equal(a[i], b[i]) {
			return false
		}
	}
	return true
}

func TestNoArgumentChanges(t *testing.T) {
	for length := range 10 {
		for _, more := range []int{0, 1, 3, 16} {
			part, whole := roomy(row(length), more)
			before := bytes.Clone(whole)
			results(part)
			for _, size := range []int{1, 2, 4, 8, 0, 3} {
				for at := -1; at <= length; at++ {
					octet.Get(part, at, size)
				}
			}
			octet.Cut(part, -1, 1)
			octet.Cut(part, length, 1)
			if !bytes.Equal(whole, before) {
				t.Errorf("R3: of %d bytes and %d more: %v became %v", length, more, before, whole)
			}
		}
	}
}

func TestResultsAreNewMemory(t *testing.T) {
	for length := range 10 {
		for _, more := range []int{0, 1, 3, 16} {
			part, whole := roomy(row(length), more)
			before := bytes.Clone(whole)
			l := results(part)
			kept := copies(l)
			overwrite(whole)
			if !same(l, kept, -1) {
				t.Fatalf("R3: a result changes with an argument of %d bytes and %d more", length, more)
			}
			overwrite(whole)
			for i := range l {
				overwrite(l[i])
				if !bytes.Equal(whole, before) {
					t.Fatalf("R3: an argument of %d bytes and %d more changes with result %d", length, more, i)
				}
				if !same(l, kept, i) {
					t.Fatalf("R3: a result changes with result %d, of %d bytes and %d more", i, length, more)
				}
				overwrite(l[i])
			}
		}
	}
}

// What was called before changes no answer.
func TestAnswersStay(t *testing.T) {
	b := row(9)
	first := copies(results(b))
	results(row(30))
	octet.Put(nil, math.MaxUint64, 8)
	octet.Pad(row(21))
	if !same(results(b), first, -1) {
		t.Error("R5: the second answers differ from the first")
	}
}
