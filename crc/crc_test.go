package crc_test

import (
	"bytes"
	"hash/crc32"
	"math"
	"testing"

	"fairlead/crc"
)

var castagnoli = crc32.MakeTable(crc32.Castagnoli)

// sums are checksums at the bounds, single bits, and others.
func sums() []uint32 {
	l := []uint32{0, 1, 2, 0x7fffffff, 0x80000000, 0xfffffffe, math.MaxUint32, 0xe3069283, 0x48674bc7, 0x82f63b78, 0x1edc6f41, 0x12345678, 0xdeadbeef}
	for bit := range 32 {
		l = append(l, 1<<bit, ^uint32(1<<bit))
	}
	return l
}

// row is n bytes that differ with n and seed, the same ones each time.
func row(n, seed int) []byte {
	l := make([]byte, n)
	x := uint32(seed)*2654435761 + uint32(n) + 1
	for i := range l {
		x = x*1664525 + 1013904223
		l[i] = byte(x >> 24)
	}
	return l
}

// texts are byte strings of many lengths, with runs of equal bytes among them.
func texts() [][]byte {
	l := [][]byte{nil, {}, {0}, {0xff}, {0x80}, {1}, []byte("123456789"), []byte("a"), []byte("The quick brown fox jumps over the lazy dog")}
	for n := range 20 {
		l = append(l, row(n, 1), bytes.Repeat([]byte{0}, n), bytes.Repeat([]byte{0xff}, n))
	}
	for _, n := range []int{31, 32, 33, 127, 128, 255, 256, 257, 1500, 4096} {
		l = append(l, row(n, 2))
	}
	return l
}

// little is the four bytes of x, the lowest first.
func little(x uint32) []byte {
	return []byte{byte(x), byte(x >> 8), byte(x >> 16), byte(x >> 24)}
}

func join(parts ...[]byte) []byte {
	return bytes.Join(parts, nil)
}

func TestExamples(t *testing.T) {
	for _, x := range []struct {
		what      string
		got, want uint32
	}{
		{"Sum of nil", crc.Sum(nil), 0},
		{"Sum of no bytes", crc.Sum([]byte{}), 0},
		{"Sum of 123456789", crc.Sum([]byte("123456789")), 0xe3069283},
		{"Extend of the sum of 1234 by 56789", crc.Extend(crc.Sum([]byte("1234")), []byte("56789")), 0xe3069283},
		{"Extend of 0 by 123456789", crc.Extend(0, []byte("123456789")), 0xe3069283},
		{"Sum of 32 bytes of 0", crc.Sum(make([]byte, 32)), 0x8a9136aa},
		{"Sum of 32 bytes of ff", crc.Sum(bytes.Repeat([]byte{0xff}, 32)), 0x62a8ab43},
		{"Sum of a", crc.Sum([]byte("a")), 0xc1d04330},
		{"Sum of a byte 0", crc.Sum([]byte{0}), 0x527d5351},
		{"Extend of ffffffff by a byte 0", crc.Extend(math.MaxUint32, []byte{0}), 0xffffffff},
	} {
		if x.got != x.want {
			t.Errorf("P2.1: %s: %08x, not %08x", x.what, x.got, x.want)
		}
	}
}

func TestSumOfCountedBytes(t *testing.T) {
	up, down := make([]byte, 32), make([]byte, 32)
	for i := range 32 {
		up[i], down[i] = byte(i), byte(31-i)
	}
	if got := crc.Sum(up); got != 0x46dd794e {
		t.Errorf("P2.1: of 0 to 31: %08x", got)
	}
	if got := crc.Sum(down); got != 0x113fdb5c {
		t.Errorf("P2.1: of 31 to 0: %08x", got)
	}
}

func TestExtendByNoBytes(t *testing.T) {
	for _, s := range sums() {
		if got := crc.Extend(s, nil); got != s {
			t.Errorf("P2.1: %08x by nil: %08x", s, got)
		}
		if got := crc.Extend(s, []byte{}); got != s {
			t.Errorf("P2.1: %08x by no bytes: %08x", s, got)
		}
	}
}

func TestExtendByEachByte(t *testing.T) {
	for _, s := range sums() {
		for x := range 256 {
			b := []byte{byte(x)}
			if got, want := crc.Extend(s, b), crc32.Update(s, castagnoli, b); got != want {
				t.Errorf("P2.1: %08x by %02x: %08x, not %08x", s, x, got, want)
			}
		}
	}
}

func TestExtendByTexts(t *testing.T) {
	for _, s := range sums() {
		for _, b := range texts() {
			if got, want := crc.Extend(s, b), crc32.Update(s, castagnoli, b); got != want {
				t.Errorf("P2.1: %08x by %d bytes: %08x, not %08x", s, len(b), got, want)
			}
		}
	}
}

func TestSumIsExtendOfZero(t *testing.T) {
	for _, b := range texts() {
		if got, want := crc.Sum(b), crc.Extend(0, b); got != want {
			t.Errorf("P2.1: of %d bytes: %08x, not %08x", len(b), got, want)
		}
	}
}

func TestSumOfManyBytes(t *testing.T) {
	b := row(1<<20+3, 5)
	if got, want := crc.Sum(b), crc32.Checksum(b, castagnoli); got != want {
		t.Errorf("P2.1: %08x, not %08x", got, want)
	}
}

func TestSumInTwoPieces(t *testing.T) {
	for _, b := range texts() {
		if len(b) > 300 {
			continue
		}
		want := crc.Sum(b)
		for i := range len(b) + 1 {
			if got := crc.Extend(crc.Sum(b[:i]), b[i:]); got != want {
				t.Errorf("consequence 1: %d bytes in two pieces at %d: %08x, not %08x", len(b), i, got, want)
			}
		}
	}
}

func TestSumInPiecesOfOneSize(t *testing.T) {
	b := row(500, 3)
	want := crc.Sum(b)
	for size := 1; size <= len(b); size++ {
		got := uint32(0)
		for at := 0; at < len(b); at += size {
			got = crc.Extend(got, b[at:min(at+size, len(b))])
		}
		if got != want {
			t.Errorf("consequence 1: in pieces of %d bytes: %08x, not %08x", size, got, want)
		}
	}
}

// before is the only sum that b extends to sum: the steps are undone, the last one first. A step that used the divisor left its highest bit in the register.
func before(sum uint32, b []byte) uint32 {
	register := ^sum
	for i := len(b) - 1; i >= 0; i-- {
		for bit := 7; bit >= 0; bit-- {
			differs := register >> 31
			if differs == 1 {
				register ^= 0x82f63b78
			}
			register = register<<1 | (differs ^ uint32(b[i])>>bit&1)
		}
	}
	return ^register
}

func TestEachSumHasOneBefore(t *testing.T) {
	for _, b := range texts() {
		for _, s := range sums() {
			first := before(s, b)
			if got := crc.Extend(first, b); got != s {
				t.Errorf("consequence 1: %08x by %d bytes: %08x, not %08x", first, len(b), got, s)
			}
			if back := before(crc.Extend(s, b), b); back != s {
				t.Errorf("consequence 1: %d bytes extend %08x and %08x to one sum", len(b), s, back)
			}
		}
	}
}

// remainder divides, without carry, the bits of b (the first 32 of them inverted, 32 zeros behind them) by 11edc6f41.
func remainder(b []byte) uint32 {
	var bits []byte
	for _, x := range b {
		for i := range 8 {
			bits = append(bits, x>>i&1)
		}
	}
	bits = append(bits, make([]byte, 32)...)
	for i := range 32 {
		bits[i] ^= 1
	}
	for i := range len(bits) - 32 {
		if bits[i] == 0 {
			continue
		}
		for k := range 33 {
			bits[i+k] ^= byte(uint64(0x11edc6f41) >> (32 - k) & 1)
		}
	}
	rest := uint32(0)
	for _, x := range bits[len(bits)-32:] {
		rest = rest<<1 | uint32(x)
	}
	return rest
}

func TestSumIsARemainder(t *testing.T) {
	for _, b := range texts() {
		want := uint32(0)
		for i, rest := 0, ^remainder(b); i < 32; i++ {
			want |= rest >> (31 - i) & 1 << i
		}
		if got := crc.Sum(b); got != want {
			t.Errorf("consequence 2: %d bytes: %08x, not %08x", len(b), got, want)
		}
	}
}

// flip is b with the bits of burst flipped from bit at on, and whether b has them all.
func flip(b []byte, burst uint32, at int) ([]byte, bool) {
	out := bytes.Clone(b)
	for i := range 32 {
		if burst>>i&1 == 0 {
			continue
		}
		if at+i >= 8*len(b) {
			return nil, false
		}
		out[(at+i)/8] ^= 1 << ((at + i) % 8)
	}
	return out, true
}

func TestBurstsAreSeen(t *testing.T) {
	for _, n := range []int{1, 2, 4, 5, 9, 40} {
		b := row(n, 4)
		for at := range 8 * n {
			for _, burst := range sums() {
				other, ok := flip(b, burst, at)
				if ok && burst != 0 && crc.Sum(other) == crc.Sum(b) {
					t.Errorf("consequence 3: %d bytes, burst %08x at bit %d: the same sum", n, burst, at)
				}
			}
		}
	}
}

func TestAllBurstsOfTwoBytesAreSeen(t *testing.T) {
	b := row(12, 6)
	sum := crc.Sum(b)
	for at := range 8*len(b) - 15 {
		for burst := 1; burst < 1<<16; burst += 37 {
			if other, _ := flip(b, uint32(burst), at); crc.Sum(other) == sum {
				t.Errorf("consequence 3: burst %04x at bit %d: the same sum", burst, at)
			}
		}
	}
}

func TestDifferenceDependsOnTheNumberOfBytes(t *testing.T) {
	for n := range 40 {
		for _, s := range sums() {
			want := crc.Extend(s, make([]byte, n)) ^ crc.Extend(0, make([]byte, n))
			for seed := range 3 {
				b := row(n, seed)
				if got := crc.Extend(s, b) ^ crc.Extend(0, b); got != want {
					t.Errorf("consequence 4: %08x by %d bytes of seed %d: %08x, not %08x", s, n, seed, got, want)
				}
				if got := crc.Extend(s^0x12345678, b) ^ crc.Extend(0x12345678, b); got != want {
					t.Errorf("consequence 4: %08x and 12345678 by %d bytes of seed %d: %08x, not %08x", s, n, seed, got, want)
				}
			}
		}
	}
}

func TestTextBeforeItsOwnSum(t *testing.T) {
	for _, b := range texts() {
		if got := crc.Sum(join(b, little(crc.Sum(b)))); got != 0x48674bc7 {
			t.Errorf("consequence 5: of %d bytes: %08x, not 48674bc7", len(b), got)
		}
	}
}

func TestTextBeforeItsSumChanged(t *testing.T) {
	for _, b := range texts() {
		for _, number := range sums() {
			got, want := crc.Sum(join(b, little(crc.Sum(b)^number))), crc.Sum(little(number))
			if got != want {
				t.Errorf("consequence 5: of %d bytes, number %08x: %08x, not %08x", len(b), number, got, want)
			}
		}
	}
}

func TestNoArgumentChanges(t *testing.T) {
	for _, b := range texts() {
		whole := join(b, bytes.Repeat([]byte{0xa5}, 9))
		want := bytes.Clone(whole)
		part := whole[:len(b)]
		if got := crc.Sum(part); got != crc32.Checksum(b, castagnoli) {
			t.Errorf("P2.1: of %d bytes with more behind them: %08x", len(b), got)
		}
		if got := crc.Extend(7, part); got != crc32.Update(7, castagnoli, b) {
			t.Errorf("P2.1: by %d bytes with more behind them: %08x", len(b), got)
		}
		if !bytes.Equal(whole, want) {
			t.Errorf("R3: %d bytes, or those behind them, changed", len(b))
		}
	}
}

func TestAnswersStay(t *testing.T) {
	b := row(100, 7)
	sum, extended := crc.Sum(b), crc.Extend(9, b)
	other := row(100, 8)
	crc.Sum(other)
	crc.Extend(math.MaxUint32, other)
	if crc.Sum(b) != sum || crc.Extend(9, b) != extended {
		t.Error("R5: a later call answers otherwise")
	}
	b[50] ^= 1
	crc.Sum(b)
	b[50] ^= 1
	if crc.Sum(b) != sum {
		t.Error("R3: bytes of an earlier call are kept")
	}
}
