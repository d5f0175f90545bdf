package mac_test

import (
	"bytes"
	"crypto/hmac"
	"crypto/sha256"
	"encoding/hex"
	"strings"
	"testing"
	"time"

	"fairlead/mac"
)

// dice is a row of numbers that is the same each time.
type dice uint64

func (d *dice) below(n int) int {
	*d = *d*6364136223846793005 + 1442695040888963407
	return int(uint64(*d) >> 33 % uint64(n))
}

// row is n bytes that differ with n and seed, the same ones each time.
func row(n, seed int) []byte {
	d := dice(1000*seed + n)
	l := make([]byte, n)
	for i := range l {
		l[i] = byte(d.below(256))
	}
	return l
}

// full is n bytes of which none is zero, so that zero bytes behind them are not among them.
func full(n, seed int) []byte {
	l := row(n, seed)
	for i := range l {
		l[i] |= 1
	}
	return l
}

// with is a's bytes and b's in memory of their own.
func with(a, b []byte) []byte {
	return append(bytes.Clone(a), b...)
}

// library is the sum as the language's library has it.
func library(key, text []byte) [32]byte {
	h := hmac.New(sha256.New, key)
	h.Write(text)
	return [32]byte(h.Sum(nil))
}

// worded is the sum word for word as P7.1 has it.
func worded(key, text []byte) [32]byte {
	if len(key) > 64 {
		d := sha256.Sum256(key)
		key = d[:]
	}
	block := with(key, make([]byte, 64-len(key)))
	masked := func(mask byte) []byte {
		l := bytes.Clone(block)
		for i := range l {
			l[i] ^= mask
		}
		return l
	}
	d := sha256.Sum256(with(masked(0x36), text))
	return sha256.Sum256(with(masked(0x5c), d[:]))
}

// summed fails unless the text's sum under the key is the library's.
func summed(t *testing.T, key, text []byte) {
	t.Helper()
	if got, want := mac.Sum(key, text), library(key, text); got != want {
		t.Errorf("P7.1: a key of %d bytes, a text of %d: %x, not %x", len(key), len(text), got, want)
	}
}

// same fails unless Same answers want, whichever of the two comes first.
func same(t *testing.T, what string, a, b []byte, want bool) {
	t.Helper()
	if got := mac.Same(a, b); got != want {
		t.Errorf("P7.2: %s: %v", what, got)
	}
	if got := mac.Same(b, a); got != want {
		t.Errorf("P7.2: %s, the other way round: %v", what, got)
	}
}

func TestExamples(t *testing.T) {
	got := mac.Sum([]byte("Jefe"), []byte("what do ya want for nothing?"))
	if want := "5bdcc146bf60754e6a042426089575c75a003f089d2739839dec58b964ec3843"; hex.EncodeToString(got[:]) != want {
		t.Errorf("P7.1: %x, not %s", got, want)
	}
	same(t, "01 02 and 01 02", []byte{1, 2}, []byte{1, 2}, true)
	same(t, "01 02 and 01", []byte{1, 2}, []byte{1}, false)
	same(t, "01 02 and 01 03", []byte{1, 2}, []byte{1, 3}, false)
	same(t, "two empty slices", []byte{}, []byte{}, true)
}

// The known sums are those of RFC 4231, and that of the empty key with the empty text.
func TestKnownSums(t *testing.T) {
	var counted []byte
	for i := range 25 {
		counted = append(counted, byte(i+1))
	}
	long := bytes.Repeat([]byte{0xaa}, 131)
	for _, x := range []struct {
		key  []byte
		text string
		want string
	}{
		{bytes.Repeat([]byte{0x0b}, 20), "Hi There", "b0344c61d8db38535ca8afceaf0bf12b881dc200c9833da726e9376c2e32cff7"},
		{[]byte("Jefe"), "what do ya want for nothing?", "5bdcc146bf60754e6a042426089575c75a003f089d2739839dec58b964ec3843"},
		{bytes.Repeat([]byte{0xaa}, 20), strings.Repeat("\xdd", 50), "773ea91e36800e46854db8ebd09181a72959098b3ef8c122d9635514ced565fe"},
		{counted, strings.Repeat("\xcd", 50), "82558a389a443c0ea4cc819899f2083a85f0faa3e578f8077a2e3ff46729665b"},
		{bytes.Repeat([]byte{0x0c}, 20), "Test With Truncation", "a3b6167473100ee06e0c796c2955552b"},
		{long, "Test Using Larger Than Block-Size Key - Hash Key First", "60e431591ee0b67f0d8a26aacbf5b77f8e0bc6213728c5140546040f0ee37f54"},
		{long, "This is a test using a larger than block-size key and a larger than block-size data. The key needs to be hashed before being used by the HMAC algorithm.", "9b09ffa71b942fcb27635fbcd5b0e944bfdc63644f0713938a7f51535c3a35e2"},
		{nil, "", "b613679a0814d9ec772f95d778c35fc5ff1697c493715653c6c712144292c5ad"},
	} {
		// One of the published sums is cut off after its first 16 bytes.
		got := mac.Sum(x.key, []byte(x.text))
		if text := hex.EncodeToString(got[:]); text[:len(x.want)] != x.want {
			t.Errorf("P7.1: a key of %d bytes, the text %q: %s, not %s", len(x.key), x.text, text, x.want)
		}
	}
}

func TestKeysOfEachLength(t *testing.T) {
	for n := range 131 {
		for _, key := range [][]byte{make([]byte, n), bytes.Repeat([]byte{0xff}, n), bytes.Repeat([]byte{0x36}, n), bytes.Repeat([]byte{0x5c}, n), row(n, 1), full(n, 2)} {
			for _, m := range []int{0, 1, 31, 32, 55, 56, 63, 64, 65, 200} {
				text := row(m, 3)
				summed(t, key, text)
				if got, want := mac.Sum(key, text), worded(key, text); got != want {
					t.Errorf("P7.1: word for word, a key of %d bytes, a text of %d: %x, not %x", n, m, got, want)
				}
			}
		}
	}
}

func TestTextsOfEachLength(t *testing.T) {
	for n := range 201 {
		for _, m := range []int{0, 1, 32, 63, 64, 65, 130} {
			summed(t, row(m, 4), row(n, 5))
			summed(t, row(m, 4), make([]byte, n))
		}
	}
}

func TestLongKeysAndTexts(t *testing.T) {
	for _, n := range []int{255, 256, 257, 320, 4095, 4096, 65535, 65536, 1<<20 + 3} {
		summed(t, row(n, 6), row(9, 7))
		summed(t, row(9, 6), row(n, 7))
		summed(t, row(n, 6), row(n, 7))
	}
}

func TestNilKeysAndTexts(t *testing.T) {
	b, none := row(70, 8), []byte{}
	for _, x := range []struct{ key, text, otherKey, otherText []byte }{
		{nil, nil, none, none},
		{nil, none, none, nil},
		{nil, b, none, b},
		{b, nil, b, none},
		{b[:9], nil, b[:9], b[9:9]},
		{nil, b, make([]byte, 1), b},
		{nil, b, make([]byte, 64), b},
	} {
		summed(t, x.key, x.text)
		summed(t, x.otherKey, x.otherText)
		if got, want := mac.Sum(x.key, x.text), mac.Sum(x.otherKey, x.otherText); got != want {
			t.Errorf("R3: a key of %d bytes, a text of %d: nil and empty differ: %x and %x", len(x.key), len(x.text), got, want)
		}
	}
}

func TestKeyAndTextAreNotAlike(t *testing.T) {
	for n := range 131 {
		a, b := full(n, 9), full(n+1, 10)
		if mac.Sum(a, b) == mac.Sum(b, a) {
			t.Errorf("P7.1: %d bytes and %d: key and text may be exchanged", n, n+1)
		}
		if n > 0 && mac.Sum(b, a) == mac.Sum(b[:n], with(b[n:], a)) {
			t.Errorf("P7.1: a key of %d bytes: its last byte may go to the text", n+1)
		}
	}
}

func TestLongKeyIsItsDigest(t *testing.T) {
	text := row(40, 11)
	for n := range 300 {
		key := full(n, 12)
		d := sha256.Sum256(key)
		if got, want := mac.Sum(key, text) == mac.Sum(d[:], text), n > 64; got != want {
			t.Errorf("consequence: a key of %d bytes, same as its digest: %v", n, got)
		}
		filled := with(d[:], make([]byte, 32))
		if got, want := mac.Sum(key, text) == mac.Sum(filled, text), n > 64; got != want {
			t.Errorf("consequence: a key of %d bytes, same as its digest and zero bytes: %v", n, got)
		}
	}
}

func TestKeyWithZeroBytesBehindIt(t *testing.T) {
	text := row(40, 13)
	for n := range 65 {
		key := full(n, 14)
		want := mac.Sum(key, text)
		for m := n; m <= 64; m++ {
			if got := mac.Sum(with(key, make([]byte, m-n)), text); got != want {
				t.Errorf("consequence: a key of %d bytes, with zero bytes up to %d: %x, not %x", n, m, got, want)
			}
		}
		for m := 65; m <= 130; m++ {
			if mac.Sum(with(key, make([]byte, m-n)), text) == want {
				t.Errorf("P7.1: a key of %d bytes is the same with zero bytes up to %d", n, m)
			}
		}
	}
}

func TestZeroBytesBehindALongKey(t *testing.T) {
	text := row(40, 15)
	for n := 65; n <= 130; n++ {
		key := full(n, 16)
		if mac.Sum(key, text) == mac.Sum(with(key, make([]byte, 1)), text) {
			t.Errorf("P7.1: a key of %d bytes is the same with a zero byte behind it", n)
		}
	}
}

func TestZeroBytesBeforeAKey(t *testing.T) {
	text := row(40, 17)
	for n := 1; n < 64; n++ {
		key := full(n, 18)
		if mac.Sum(key, text) == mac.Sum(with(make([]byte, 1), key), text) {
			t.Errorf("P7.1: a key of %d bytes is the same with a zero byte before it", n)
		}
	}
}

func TestZeroBytesBehindAText(t *testing.T) {
	key := row(20, 19)
	for n := range 131 {
		text := full(n, 20)
		if mac.Sum(key, text) == mac.Sum(key, with(text, make([]byte, 1))) {
			t.Errorf("P7.1: a text of %d bytes is the same with a zero byte behind it", n)
		}
	}
}

func TestEachBitCounts(t *testing.T) {
	for _, n := range []int{20, 63, 64, 65, 130} {
		b, fixed := row(n, 21), row(n, 22)
		asKey, asText := mac.Sum(b, fixed), mac.Sum(fixed, b)
		for bit := range 8 * n {
			b[bit/8] ^= 1 << (bit % 8)
			summed(t, b, fixed)
			summed(t, fixed, b)
			if mac.Sum(b, fixed) == asKey || mac.Sum(fixed, b) == asText {
				t.Errorf("P7.1: of %d bytes, bit %d does not count", n, bit)
			}
			b[bit/8] ^= 1 << (bit % 8)
		}
	}
}

func TestManySums(t *testing.T) {
	d := dice(23)
	for run := range 2000 {
		most := []int{3, 40, 70, 140, 700}
		summed(t, row(d.below(most[d.below(5)]), run), row(d.below(most[d.below(5)]), run+1))
	}
}

func TestAnswersStay(t *testing.T) {
	for n := range 131 {
		key, text := row(n, 24), row(130-n, 25)
		want := library(key, text)
		for range 3 {
			if got := mac.Sum(key, text); got != want {
				t.Errorf("R5: a key of %d bytes: a later call answers %x, not %x", n, got, want)
			}
			mac.Sum(text, key)
			mac.Sum(nil, nil)
			mac.Sum(row(n, 26), text)
			mac.Sum(key, row(n, 27))
			mac.Sum(row(200, 28), row(200, 29))
		}
	}
}

func TestSumFollowsChangedBytes(t *testing.T) {
	for _, n := range []int{1, 20, 63, 64, 65, 130} {
		key, text := row(n, 30), row(n, 31)
		answer := mac.Sum(key, text)
		key[n-1] ^= 1
		summed(t, key, text)
		text[0] ^= 1
		summed(t, key, text)
		key[n-1] ^= 1
		text[0] ^= 1
		clear(answer[:])
		summed(t, key, text)
	}
}

func TestSumChangesNoArgument(t *testing.T) {
	behind := bytes.Repeat([]byte{0xa5}, 150)
	for n := range 131 {
		for _, m := range []int{0, 1, 31, 32, 55, 63, 64, 65, 130} {
			key, text := row(n, 32), row(m, 33)
			keys, texts := with(key, behind), with(text, behind)
			if got, want := mac.Sum(keys[:n], texts[:m]), library(key, text); got != want {
				t.Errorf("P7.1: %d and %d bytes with more behind them: %x, not %x", n, m, got, want)
			}
			if !bytes.Equal(keys, with(key, behind)) {
				t.Errorf("R3: a key of %d bytes, or what lies behind it, changed", n)
			}
			if !bytes.Equal(texts, with(text, behind)) {
				t.Errorf("R3: a text of %d bytes, or what lies behind it, changed", m)
			}
		}
	}
}

func TestKeyAndTextOfOneArray(t *testing.T) {
	whole := row(200, 34)
	before := bytes.Clone(whole)
	for _, x := range [][4]int{{0, 200, 0, 200}, {0, 20, 0, 20}, {0, 20, 20, 200}, {0, 64, 64, 200}, {0, 65, 60, 200}, {100, 120, 0, 200}, {30, 160, 10, 90}, {0, 0, 0, 200}} {
		key, text := whole[x[0]:x[1]], whole[x[2]:x[3]]
		want := library(bytes.Clone(key), bytes.Clone(text))
		if got := mac.Sum(key, text); got != want {
			t.Errorf("P7.1: a key from %d to %d, a text from %d to %d: %x, not %x", x[0], x[1], x[2], x[3], got, want)
		}
		if !bytes.Equal(whole, before) {
			t.Fatalf("R3: a key from %d to %d, a text from %d to %d: the array changed", x[0], x[1], x[2], x[3])
		}
	}
}

func TestSameOfEqualBytes(t *testing.T) {
	for n := range 301 {
		for _, b := range [][]byte{make([]byte, n), bytes.Repeat([]byte{0xff}, n), row(n, 35)} {
			same(t, "equal bytes in two arrays", b, bytes.Clone(b), true)
			same(t, "a slice and itself", b, b, true)
			behind, other := with(b, []byte{1, 2}), with(b, []byte{3})
			same(t, "equal bytes with others behind them", behind[:n], other[:n], true)
		}
	}
	b := row(1<<20, 36)
	same(t, "2^20 equal bytes", b, bytes.Clone(b), true)
}

func TestSameOfOneArray(t *testing.T) {
	b := []byte("abcabcab")
	same(t, "the same part", b[1:4], b[1:4], true)
	same(t, "equal parts beside each other", b[0:3], b[3:6], true)
	same(t, "equal parts that overlap", b[0:5], b[3:8], true)
	same(t, "different parts that overlap", b[0:5], b[1:6], false)
	same(t, "different parts beside each other", b[0:3], b[4:7], false)
	same(t, "no bytes at two places", b[2:2], b[5:5], true)
	same(t, "parts with the same first byte", b[0:3], b[0:4], false)
}

func TestSameOfNilAndEmpty(t *testing.T) {
	b := []byte{7}
	for _, none := range [][]byte{nil, {}, b[:0], b[1:], make([]byte, 0, 9)} {
		same(t, "nil and no bytes", nil, none, true)
		same(t, "an empty slice and no bytes", []byte{}, none, true)
		same(t, "a byte and no bytes", b, none, false)
		same(t, "a zero byte and no bytes", []byte{0}, none, false)
		same(t, "256 zero bytes and no bytes", make([]byte, 256), none, false)
	}
}

func TestSameOfAPieceAndTheWhole(t *testing.T) {
	for _, whole := range [][]byte{row(130, 37), make([]byte, 130), bytes.Repeat([]byte{0xff}, 130)} {
		for n := range whole {
			same(t, "a beginning and the whole", whole[:n], whole, false)
			same(t, "an end and the whole", whole[n+1:], whole, false)
			same(t, "a copy of a beginning and the whole", bytes.Clone(whole[:n]), whole, false)
		}
	}
}

func TestSameOfLengthsThatDifferMuch(t *testing.T) {
	for _, n := range []int{0, 1, 2, 32, 255, 256, 257} {
		for _, more := range []int{1, 64, 128, 255, 256, 257, 512, 65535, 65536, 1 << 20} {
			same(t, "zero bytes of two lengths", make([]byte, n), make([]byte, n+more), false)
			b := row(n+more, 38)
			same(t, "a beginning and the whole", bytes.Clone(b[:n]), b, false)
		}
	}
}

func TestSameOfTwoDifferentBytes(t *testing.T) {
	for a := range 256 {
		for b := range 256 {
			if got := mac.Same([]byte{byte(a)}, []byte{byte(b)}); got != (a == b) {
				t.Errorf("P7.2: the byte %x and the byte %x: %v", a, b, got)
			}
		}
	}
}

func TestSameWithOneDifference(t *testing.T) {
	for _, n := range []int{1, 2, 3, 7, 8, 9, 31, 32, 33, 64, 65, 255, 256, 257, 300} {
		a := row(n, 39)
		b := bytes.Clone(a)
		for bit := range 8 * n {
			b[bit/8] ^= 1 << (bit % 8)
			same(t, "a different bit", a, b, false)
			b[bit/8] = ^a[bit/8]
			same(t, "a byte with all bits different", a, b, false)
			b[bit/8] = a[bit/8]
		}
		same(t, "no difference left", a, b, true)
	}
}

// Differences must not make up for each other, whether they are put together by addition or by XOR.
func TestSameWithTwoDifferences(t *testing.T) {
	for _, x := range [][4]byte{{0, 0, 1, 1}, {0, 0, 0x80, 0x80}, {0, 0, 0xff, 0xff}, {0, 0, 1, 0xff}, {1, 0, 0, 1}, {0x11, 2, 1, 0x12}, {0x0f, 0xf0, 0xf0, 0x0f}, {0, 1, 0xff, 2}} {
		for n := 2; n <= 40; n++ {
			a := row(n, 40)
			b := bytes.Clone(a)
			for i := range n - 1 {
				p, q := a[i], a[n-1]
				a[i], a[n-1], b[i], b[n-1] = x[0], x[1], x[2], x[3]
				same(t, "two differences", a, b, false)
				a[i], a[n-1], b[i], b[n-1] = p, q, p, q
			}
		}
	}
	// The first 256 differences of one kind come to nothing modulo 256.
	for n := 1; n <= 600; n++ {
		same(t, "differences everywhere", make([]byte, n), bytes.Repeat([]byte{1}, n), false)
	}
}

func TestSameOfTheSameBytesInAnotherOrder(t *testing.T) {
	for n := 2; n <= 70; n++ {
		a := make([]byte, n)
		for i := range a {
			a[i] = byte(3 * i)
		}
		same(t, "turned by one", a, with(a[1:], a[:1]), false)
		b := bytes.Clone(a)
		b[0], b[n-1] = b[n-1], b[0]
		same(t, "first and last exchanged", a, b, false)
	}
}

func TestSameOfSums(t *testing.T) {
	key, text := row(32, 41), row(100, 42)
	a, b := mac.Sum(key, text), mac.Sum(key, text)
	same(t, "a sum asked twice", a[:], b[:], true)
	b = mac.Sum(key, text[:99])
	same(t, "sums of two texts", a[:], b[:], false)
	b = mac.Sum(key[:31], text)
	same(t, "sums under two keys", a[:], b[:], false)
}

func TestSameChangesNoArgument(t *testing.T) {
	behind := bytes.Repeat([]byte{0xa5}, 20)
	for n := range 131 {
		a, b := row(n, 43), row(n, 44)
		as, bs, longer := with(a, behind), with(b, behind), with(a, behind)
		for range 2 {
			same(t, "bytes of two rows", as[:n], bs[:n], n == 0)
			same(t, "bytes of one row", as[:n], longer[:n], true)
			same(t, "one more byte", as[:n], longer[:n+1], false)
		}
		if !bytes.Equal(as, with(a, behind)) || !bytes.Equal(bs, with(b, behind)) || !bytes.Equal(longer, with(a, behind)) {
			t.Errorf("R3: %d bytes, or what lies behind them, changed", n)
		}
	}
}

// The time is held to a wide bound: bytes that differ at once are thousands of times faster where the rest is not looked at.
func TestSameLooksAtAllBytes(t *testing.T) {
	const n = 1 << 20
	a := row(n, 45)
	least := func(at int) time.Duration {
		b := bytes.Clone(a)
		b[at] ^= 1
		best := time.Hour
		for range 15 {
			start := time.Now()
			got := mac.Same(a, b)
			best = min(best, time.Since(start))
			if got {
				t.Errorf("P7.2: with byte %d different: same", at)
			}
		}
		return best
	}
	last := least(n - 1)
	for _, at := range []int{0, 1, n / 32} {
		if first := least(at); last > 10*first {
			t.Errorf("P7.2: with byte %d different %v, with the last one %v", at, first, last)
		}
	}
}
