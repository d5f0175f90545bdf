package cookie_test

import (
	"bytes"
	"crypto/hmac"
	"crypto/sha256"
	"encoding/hex"
	"fmt"
	"math"
	"math/big"
	"slices"
	"testing"

	"fairlead/api"
	"fairlead/cookie"
	"fairlead/mac"
)

// dice is a row of numbers that is the same each time.
type dice uint64

func (d *dice) next() uint64 {
	*d = *d*6364136223846793005 + 1442695040888963407
	return uint64(*d) >> 32
}

func (d *dice) below(n int) int {
	return int(d.next() % uint64(n))
}

// row is n bytes that differ with n and seed, the same ones each time.
func row(n, seed int) []byte {
	d := dice(1000*seed + n)
	l := make([]byte, n)
	for i := range l {
		l[i] = byte(d.below(256))
	}
	return l
}

// full is n bytes of which none is zero, so that zero bytes behind them are not among them.
func full(n, seed int) []byte {
	l := row(n, seed)
	for i := range l {
		l[i] |= 1
	}
	return l
}

// with is a's bytes and b's in memory of their own.
func with(a []byte, b ...byte) []byte {
	return append(bytes.Clone(a), b...)
}

// summed is the text and its sum under the key behind it, as the language's library has that.
func summed(key, text []byte) []byte {
	h := hmac.New(sha256.New, key)
	h.Write(text)
	return h.Sum(bytes.Clone(text))
}

// laid is the first 32 bytes of a cookie, word for word as the chapter has them.
func laid(c api.Cookie) []byte {
	var b []byte
	for shift := 56; shift >= 0; shift -= 8 {
		b = append(b, byte(uint64(c.Born)>>shift))
	}
	for _, x := range []uint32{c.OwnTag, c.PeerTag, c.OwnTsn, c.PeerTsn, c.PeerRwnd} {
		b = append(b, byte(x>>24), byte(x>>16), byte(x>>8), byte(x))
	}
	return append(b, byte(c.Out>>8), byte(c.Out), byte(c.In>>8), byte(c.In))
}

// worded is the encoding of a cookie, word for word as the chapter has it.
func worded(key []byte, c api.Cookie) []byte {
	return summed(key, laid(c))
}

// valid says whether a cookie is valid, word for word as the chapter has it.
func valid(c api.Cookie) bool {
	negative := c.Born < 0
	eitherTag := c.OwnTag == 0 || c.PeerTag == 0
	streams := c.Out > 0 && c.In > 0
	return !negative && !eitherTag && streams
}

// sample is a valid cookie of which each byte differs from its neighbours.
var sample = api.Cookie{
	Born: 0x0102030405060708, OwnTag: 0x11121314, PeerTag: 0x21222324, OwnTsn: 0x31323334,
	PeerTsn: 0x41424344, PeerRwnd: 0x51525354, Out: 0x6162, In: 0x7172,
}

// The bounds of the numbers of each size.
var (
	times = []int64{math.MinInt64, math.MinInt64 + 1, -1, 0, 1, math.MaxInt64 - 1, math.MaxInt64}
	words = []uint32{0, 1, math.MaxUint32}
	halfs = []uint16{0, 1, math.MaxUint16}
)

// keys are keys of no bytes, of 64, of fewer and of more.
func keys() [][]byte {
	l := [][]byte{nil, {}, []byte("k"), {0}}
	for _, n := range []int{2, 16, 31, 32, 33, 63, 64, 65, 66, 128, 129, 1000} {
		l = append(l, full(n, 1))
	}
	return l
}

// bounds are cookies of all bounds together, valid ones and others.
func bounds() []api.Cookie {
	var l []api.Cookie
	for _, born := range times {
		for _, own := range words {
			for _, peer := range words {
				for _, out := range halfs {
					for _, in := range halfs {
						for _, x := range words {
							l = append(l, api.Cookie{Born: born, OwnTag: own, PeerTag: peer, OwnTsn: x, PeerTsn: ^x, PeerRwnd: x, Out: out, In: in})
						}
					}
				}
			}
		}
	}
	return l
}

// pick is one of the bounds or any number.
func pick[N int64 | uint32 | uint16](d *dice, l []N) N {
	if d.below(3) == 0 {
		return l[d.below(len(l))]
	}
	return N(d.next()<<32 | d.next())
}

// anyCookie is a cookie of numbers at their bounds and elsewhere, valid or not.
func anyCookie(d *dice) api.Cookie {
	return api.Cookie{
		Born: pick(d, times), OwnTag: pick(d, words), PeerTag: pick(d, words), OwnTsn: pick(d, words),
		PeerTsn: pick(d, words), PeerRwnd: pick(d, words), Out: pick(d, halfs), In: pick(d, halfs),
	}
}

// mended is c made valid.
func mended(c api.Cookie) api.Cookie {
	c.Born &= math.MaxInt64
	c.OwnTag, c.PeerTag = max(c.OwnTag, 1), max(c.PeerTag, 1)
	c.Out, c.In = max(c.Out, 1), max(c.In, 1)
	return c
}

// faulty are cookies that are invalid for one reason each.
func faulty() map[string]api.Cookie {
	changed := func(change func(c *api.Cookie)) api.Cookie {
		c := sample
		change(&c)
		return c
	}
	return map[string]api.Cookie{
		"Born -1":        changed(func(c *api.Cookie) { c.Born = -1 }),
		"Born -2":        changed(func(c *api.Cookie) { c.Born = -2 }),
		"Born -2^31":     changed(func(c *api.Cookie) { c.Born = math.MinInt32 }),
		"the least Born": changed(func(c *api.Cookie) { c.Born = math.MinInt64 }),
		"OwnTag 0":       changed(func(c *api.Cookie) { c.OwnTag = 0 }),
		"PeerTag 0":      changed(func(c *api.Cookie) { c.PeerTag = 0 }),
		"Out 0":          changed(func(c *api.Cookie) { c.Out = 0 }),
		"In 0":           changed(func(c *api.Cookie) { c.In = 0 }),
	}
}

func head(b []byte) string {
	return fmt.Sprintf("%d bytes %x", len(b), b[:min(len(b), 70)])
}

// written fails unless a cookie is written as the chapter has it.
func written(t *testing.T, key []byte, c api.Cookie) {
	t.Helper()
	if got, want := cookie.Write(key, c), worded(key, c); !bytes.Equal(got, want) {
		t.Errorf("P11.1: a key of %d bytes, %+v: %x, not %x", len(key), c, got, want)
	}
}

// refused fails unless the bytes are refused with that error, and with the zero cookie.
func refused(t *testing.T, what string, key, b []byte, want api.Errno) {
	t.Helper()
	c, e := cookie.Read(key, b)
	if e != want {
		t.Errorf("P11.1: %s: a key of %d bytes, %s: error %d, not %d", what, len(key), head(b), e, want)
	}
	if c != (api.Cookie{}) {
		t.Errorf("R2: %s: a key of %d bytes, %s: with error %d, %+v", what, len(key), head(b), e, c)
	}
}

// reads fails unless the bytes are read as that cookie.
func reads(t *testing.T, key, b []byte, want api.Cookie) {
	t.Helper()
	if c, e := cookie.Read(key, b); c != want || e != api.OK {
		t.Errorf("P11.1: a key of %d bytes, %s: %+v, error %d, not %+v", len(key), head(b), c, e, want)
	}
}

// judged fails unless the encoding of c is read if and only if c is valid.
func judged(t *testing.T, key []byte, c api.Cookie) {
	t.Helper()
	if b := worded(key, c); valid(c) {
		reads(t, key, b, c)
	} else {
		refused(t, fmt.Sprintf("%+v", c), key, b, api.ErrForm)
	}
}

// fresh fails unless Fresh answers want.
func fresh(t *testing.T, born, now, life int64, want bool) {
	t.Helper()
	for _, c := range []api.Cookie{{Born: born}, {Born: born, OwnTag: 1, PeerTag: 2, OwnTsn: 3, PeerTsn: 4, PeerRwnd: 5, Out: 6, In: 7}} {
		if got := cookie.Fresh(c, now, life); got != want {
			t.Errorf("P11.2: %+v at %d with life %d: %v", c, now, life, got)
		}
	}
}

// wordedFresh is Fresh word for word as the chapter has it, in numbers that have no bounds.
func wordedFresh(born, now, life int64) bool {
	by := new(big.Int).Sub(big.NewInt(now), big.NewInt(born))
	return life >= 0 && by.Sign() >= 0 && by.Cmp(big.NewInt(life)) <= 0
}

// derived fails unless the tag and the TSN are those of the sum.
func derived(t *testing.T, key, text []byte) {
	t.Helper()
	sum := summed(key, text)[len(text):]
	number := func(at int) uint32 {
		return uint32(sum[at])<<24 | uint32(sum[at+1])<<16 | uint32(sum[at+2])<<8 | uint32(sum[at+3])
	}
	wantTag, wantTsn := number(0), number(4)
	if wantTag == 0 {
		wantTag = 1
	}
	if tag, tsn := cookie.Derive(key, text); tag != wantTag || tsn != wantTsn {
		t.Errorf("P11.3: a key of %d bytes, a text of %d: %x and %x, not %x and %x", len(key), len(text), tag, tsn, wantTag, wantTsn)
	}
}

func TestExamples(t *testing.T) {
	key := []byte("k")
	c := api.Cookie{Born: 5, OwnTag: 1, PeerTag: 2, OwnTsn: 3, PeerTsn: 4, PeerRwnd: 6, Out: 7, In: 8}
	b := cookie.Write(key, c)
	want := []byte{0, 0, 0, 0, 0, 0, 0, 5, 0, 0, 0, 1, 0, 0, 0, 2, 0, 0, 0, 3, 0, 0, 0, 4, 0, 0, 0, 6, 0, 7, 0, 8}
	if len(b) != 64 || cookie.Size != 64 || !bytes.HasPrefix(b, want) {
		t.Fatalf("P11.1: %s, not %x and 32 more; Size is %d", head(b), want, cookie.Size)
	}
	reads(t, key, b, c)
	refused(t, "the first 63 bytes", key, b[:63], api.ErrForm)
	b[63]++
	refused(t, "the last byte changed", key, b, api.ErrMac)
	fresh(t, 5, 5, 0, true)
	fresh(t, 5, 4, 0, false)
	fresh(t, 5, 6, 0, false)
}

// The sums were found with neither this program nor the library.
func TestCookiesByteForByte(t *testing.T) {
	for _, x := range []struct {
		key  string
		c    api.Cookie
		want string
	}{
		{
			"k", api.Cookie{Born: 5, OwnTag: 1, PeerTag: 2, OwnTsn: 3, PeerTsn: 4, PeerRwnd: 6, Out: 7, In: 8},
			"0000000000000005" + "00000001" + "00000002" + "00000003" + "00000004" + "00000006" + "0007" + "0008" +
				"d4bf9abed5fcda81814b69911d53f90fd22d5af4a3b57f3406c07e163159dbe3",
		},
		{
			"a key of its own", api.Cookie{Born: -2, OwnTag: 0x01020304, PeerTag: 0xf1f2f3f4, PeerTsn: math.MaxUint32, PeerRwnd: 0x80000001, In: 0xfffe},
			"fffffffffffffffe" + "01020304" + "f1f2f3f4" + "00000000" + "ffffffff" + "80000001" + "0000" + "fffe" +
				"fe9d0edf6c14b998f9dfc05bf0433ce878e889ab0a69f169fd3d52300a56708a",
		},
	} {
		if got := hex.EncodeToString(cookie.Write([]byte(x.key), x.c)); got != x.want {
			t.Errorf("P11.1: the key %q, %+v: %s, not %s", x.key, x.c, got, x.want)
		}
	}
}

func TestEachFieldAtItsPlace(t *testing.T) {
	for _, f := range []struct {
		name     string
		at, size int
		cookie   func(x uint64) api.Cookie
	}{
		{"Born", 0, 8, func(x uint64) api.Cookie { return api.Cookie{Born: int64(x)} }},
		{"OwnTag", 8, 4, func(x uint64) api.Cookie { return api.Cookie{OwnTag: uint32(x)} }},
		{"PeerTag", 12, 4, func(x uint64) api.Cookie { return api.Cookie{PeerTag: uint32(x)} }},
		{"OwnTsn", 16, 4, func(x uint64) api.Cookie { return api.Cookie{OwnTsn: uint32(x)} }},
		{"PeerTsn", 20, 4, func(x uint64) api.Cookie { return api.Cookie{PeerTsn: uint32(x)} }},
		{"PeerRwnd", 24, 4, func(x uint64) api.Cookie { return api.Cookie{PeerRwnd: uint32(x)} }},
		{"Out", 28, 2, func(x uint64) api.Cookie { return api.Cookie{Out: uint16(x)} }},
		{"In", 30, 2, func(x uint64) api.Cookie { return api.Cookie{In: uint16(x)} }},
	} {
		most := uint64(math.MaxUint64) >> (64 - 8*f.size)
		numbers := []uint64{0, 1, most - 1, most, most/2 + 1, most / 2, 0x0102030405060708 & most}
		for bit := range 8 * f.size {
			numbers = append(numbers, 1<<bit)
		}
		for _, x := range numbers {
			want := make([]byte, 32)
			for i := range f.size {
				want[f.at+i] = byte(x >> (8 * (f.size - 1 - i)))
			}
			for _, key := range [][]byte{nil, []byte("k"), full(64, 2), full(65, 2)} {
				if got := cookie.Write(key, f.cookie(x)); !bytes.Equal(got, summed(key, want)) {
					t.Errorf("P11.1: %s %#x: %x, not %x", f.name, x, got, summed(key, want))
				}
			}
		}
	}
}

func TestWriteAtTheBounds(t *testing.T) {
	l := keys()
	for i, c := range bounds() {
		written(t, l[i%len(l)], c)
	}
	for _, key := range l {
		written(t, key, sample)
		written(t, key, api.Cookie{})
		for _, c := range faulty() {
			written(t, key, c)
		}
	}
}

func TestNegativeBorns(t *testing.T) {
	for born, want := range map[int64]string{
		math.MinInt64: "\x80\x00\x00\x00\x00\x00\x00\x00",
		math.MinInt32: "\xff\xff\xff\xff\x80\x00\x00\x00",
		-256:          "\xff\xff\xff\xff\xff\xff\xff\x00",
		-2:            "\xff\xff\xff\xff\xff\xff\xff\xfe",
		-1:            "\xff\xff\xff\xff\xff\xff\xff\xff",
		math.MaxInt64: "\x7f\xff\xff\xff\xff\xff\xff\xff",
	} {
		b := cookie.Write([]byte("k"), api.Cookie{Born: born})
		if len(b) != 64 || string(b[:8]) != want {
			t.Errorf("P11.1: Born %d: %s, not %x first", born, head(b), want)
		}
	}
}

// The last 32 bytes are what package mac sums of the key and the first 32.
func TestTheSumIsThatOfPackageMac(t *testing.T) {
	d := dice(3)
	for n := range 200 {
		key, c := row(n, 4), anyCookie(&d)
		b := cookie.Write(key, c)
		if len(b) != 64 || !bytes.Equal(b[:32], laid(c)) {
			t.Fatalf("P11.1: a key of %d bytes, %+v: %s", n, c, head(b))
		}
		if sum := mac.Sum(key, b[:32]); !bytes.Equal(b[32:], sum[:]) {
			t.Errorf("P11.1: a key of %d bytes, %+v: %x last, not %x", n, c, b[32:], sum)
		}
		judged(t, key, c)
	}
}

func TestNilKeyAndNoBytes(t *testing.T) {
	empty := full(9, 5)[:0]
	for _, x := range [][2][]byte{{nil, {}}, {nil, empty}, {{}, empty}} {
		a, b := cookie.Write(x[0], sample), cookie.Write(x[1], sample)
		if !bytes.Equal(a, b) {
			t.Errorf("R3: keys nil and empty: %x and %x", a, b)
		}
		reads(t, x[0], b, sample)
		reads(t, x[1], a, sample)
		refused(t, "nil", x[0], nil, api.ErrForm)
		refused(t, "no bytes", x[1], empty, api.ErrForm)
	}
}

func TestReadOfOtherLengths(t *testing.T) {
	for _, key := range keys() {
		b := worded(key, sample)
		long := with(b, row(300, 6)...)
		for n := range long {
			if n != 64 {
				refused(t, "a beginning", key, long[:n], api.ErrForm)
				refused(t, "zero bytes", key, make([]byte, n), api.ErrForm)
			}
			if n > 0 && n <= 64 {
				refused(t, "an end", key, b[n:], api.ErrForm)
			}
		}
		refused(t, "nil", key, nil, api.ErrForm)
		refused(t, "a zero byte behind it", key, with(b, 0), api.ErrForm)
		refused(t, "a zero byte before it", key, with([]byte{0}, b...), api.ErrForm)
		refused(t, "twice the same", key, with(b, b...), api.ErrForm)
		refused(t, "64 bytes and 2^16 more", key, with(b, make([]byte, 1<<16)...), api.ErrForm)
		refused(t, "64 bytes and 2^20 more", key, with(b, make([]byte, 1<<20)...), api.ErrForm)
	}
}

// Bytes of another count are refused though their last 32 are the sum of those ahead of them, or of the first 32.
func TestReadOfOtherLengthsWithRightSums(t *testing.T) {
	for _, key := range keys() {
		text := laid(sample)
		sum := summed(key, text)[32:]
		for n := range 100 {
			if n != 32 {
				refused(t, "summed", key, summed(key, with(text, row(100, 7)...)[:n]), api.ErrForm)
				refused(t, "zero bytes, summed", key, summed(key, make([]byte, n)), api.ErrForm)
			}
			if n > 0 {
				refused(t, "the sum of the first 32 bytes at the end", key, slices.Concat(text, row(n, 8), sum), api.ErrForm)
				refused(t, "the sum of the first 32 bytes behind them", key, slices.Concat(text, sum, row(n, 8)), api.ErrForm)
			}
		}
		refused(t, "the sum alone", key, sum, api.ErrForm)
	}
}

func TestEachBitChanged(t *testing.T) {
	for _, key := range keys() {
		b := worded(key, sample)
		for bit := range 8 * len(b) {
			b[bit/8] ^= 1 << (bit % 8)
			refused(t, "a bit changed", key, b, api.ErrMac)
			b[bit/8] ^= 1 << (bit % 8)
		}
		reads(t, key, b, sample)
	}
}

func TestEachByteChanged(t *testing.T) {
	key := []byte("k")
	for _, c := range []api.Cookie{sample, {OwnTag: 1, PeerTag: 1, Out: 1, In: 1}, mended(api.Cookie{Born: math.MaxInt64, OwnTsn: math.MaxUint32, PeerTsn: math.MaxUint32})} {
		b := worded(key, c)
		for i, right := range b {
			for x := range 256 {
				if b[i] = byte(x); b[i] != right {
					refused(t, "a byte changed", key, b, api.ErrMac)
				}
			}
			b[i] = right
		}
		reads(t, key, b, c)
	}
}

// Changes must not make up for each other.
func TestSeveralBytesChanged(t *testing.T) {
	key := []byte("k")
	right := worded(key, sample)
	changed := func(what string, change func(b []byte)) {
		b := bytes.Clone(right)
		change(b)
		refused(t, what, key, b, api.ErrMac)
	}
	for i := range 64 {
		for j := range i {
			changed("the same bit of two bytes", func(b []byte) { b[i] ^= 1; b[j] ^= 1 })
			changed("one byte more by one, one less", func(b []byte) { b[i]++; b[j]-- })
			if right[i] != right[j] {
				changed("two bytes exchanged", func(b []byte) { b[i], b[j] = b[j], b[i] })
			}
		}
		changed("zero bytes from here on", func(b []byte) { clear(b[i:]) })
		changed("zero bytes up to here", func(b []byte) { clear(b[:i+1]) })
		changed("all bits of the rest", func(b []byte) {
			for k := i; k < 64; k++ {
				b[k] = ^b[k]
			}
		})
	}
	changed("the sum turned by one", func(b []byte) { copy(b[32:], with(right[33:], right[32])) })
	changed("the halves exchanged", func(b []byte) { copy(b, with(right[32:], right[:32]...)) })
	changed("the sum of the sum", func(b []byte) { copy(b[32:], summed(key, right[32:])[32:]) })
	changed("the sum of all", func(b []byte) { copy(b[32:], summed(key, right)[64:]) })
	changed("a sum without a key", func(b []byte) { d := sha256.Sum256(b[:32]); copy(b[32:], d[:]) })
	changed("another cookie's sum", func(b []byte) { copy(b[32:], worded(key, mended(api.Cookie{}))[32:]) })
}

func TestOtherKeys(t *testing.T) {
	l := keys()[2:]
	l = append(l, full(64, 9), full(65, 9), []byte("j"), []byte("kk"), []byte("K"))
	for i, key := range l {
		b := cookie.Write(key, sample)
		for j, other := range l {
			if i != j {
				refused(t, "another key", other, b, api.ErrMac)
			}
		}
		refused(t, "a key with a byte more", with(key, 1), b, api.ErrMac)
		refused(t, "a key with a byte before it", with([]byte{1}, key...), b, api.ErrMac)
		for k := range key {
			for _, bit := range []byte{1, 0x80} {
				other := bytes.Clone(key)
				other[k] ^= bit
				refused(t, "a key with a bit changed", other, b, api.ErrMac)
			}
		}
		if n := len(key); key[n-1] != 0 {
			refused(t, "a key without its last byte", key[:n-1], b, api.ErrMac)
			refused(t, "no key", nil, b, api.ErrMac)
		}
	}
}

// Package mac takes zero bytes behind a key of up to 64 as none, and a longer key as its digest.
func TestKeysThatAreTheSameToPackageMac(t *testing.T) {
	key := full(20, 10)
	for n := range 45 {
		reads(t, with(key, make([]byte, n)...), cookie.Write(key, sample), sample)
		reads(t, key, cookie.Write(with(key, make([]byte, n)...), sample), sample)
	}
	refused(t, "zero bytes beyond 64", with(key, make([]byte, 45)...), cookie.Write(key, sample), api.ErrMac)
	long := full(65, 10)
	digest := sha256.Sum256(long)
	reads(t, digest[:], cookie.Write(long, sample), sample)
	reads(t, nil, cookie.Write(make([]byte, 64), sample), sample)
}

func TestInvalidCookies(t *testing.T) {
	for what, c := range faulty() {
		for _, key := range keys() {
			refused(t, what, key, worded(key, c), api.ErrForm)
			refused(t, what+", as it was written", key, cookie.Write(key, c), api.ErrForm)
		}
	}
	for _, key := range keys() {
		refused(t, "the zero cookie", key, worded(key, api.Cookie{}), api.ErrForm)
	}
}

func TestValidCookiesAtTheBounds(t *testing.T) {
	least := api.Cookie{OwnTag: 1, PeerTag: 1, Out: 1, In: 1}
	greatest := api.Cookie{
		Born: math.MaxInt64, OwnTag: math.MaxUint32, PeerTag: math.MaxUint32, OwnTsn: math.MaxUint32,
		PeerTsn: math.MaxUint32, PeerRwnd: math.MaxUint32, Out: math.MaxUint16, In: math.MaxUint16,
	}
	l := []api.Cookie{least, greatest}
	for _, change := range []func(c *api.Cookie){
		func(c *api.Cookie) { c.Born = 0 },
		func(c *api.Cookie) { c.OwnTag = 1 },
		func(c *api.Cookie) { c.PeerTag = 1 },
		func(c *api.Cookie) { c.OwnTsn = 0 },
		func(c *api.Cookie) { c.PeerTsn = 0 },
		func(c *api.Cookie) { c.PeerRwnd = 0 },
		func(c *api.Cookie) { c.Out = 1 },
		func(c *api.Cookie) { c.In = 1 },
		// Only some of the bytes of these are other than zero.
		func(c *api.Cookie) { c.OwnTag = 1 << 31 },
		func(c *api.Cookie) { c.PeerTag = 1 << 31 },
		func(c *api.Cookie) { c.Out = 1 << 15 },
		func(c *api.Cookie) { c.In = 1 << 15 },
		func(c *api.Cookie) { c.Born = 1 << 31 },
		func(c *api.Cookie) { c.Born = 1 << 32 },
	} {
		for _, c := range []api.Cookie{sample, least, greatest} {
			change(&c)
			l = append(l, c)
		}
	}
	for _, c := range l {
		for _, key := range keys() {
			reads(t, key, worded(key, c), c)
			reads(t, key, cookie.Write(key, c), c)
		}
	}
}

func TestReadAtTheBounds(t *testing.T) {
	l := keys()
	for i, c := range bounds() {
		judged(t, l[i%len(l)], c)
	}
}

// Where the sum is wrong, what the first 32 bytes say does not count.
func TestTheSumComesFirst(t *testing.T) {
	for what, c := range faulty() {
		for _, key := range keys() {
			b := worded(key, c)
			for i := 32; i < 64; i++ {
				b[i] ^= 1
				refused(t, what+", the sum changed", key, b, api.ErrMac)
				b[i] ^= 1
			}
			refused(t, what+", another key", with(key, full(3, 11)...), b, api.ErrMac)
			refused(t, what+", the sum zero", key, with(b[:32], make([]byte, 32)...), api.ErrMac)
		}
	}
	for _, key := range keys() {
		refused(t, "64 zero bytes", key, make([]byte, 64), api.ErrMac)
		refused(t, "64 bytes 255", key, bytes.Repeat([]byte{255}, 64), api.ErrMac)
		b := worded(key, mended(api.Cookie{}))
		for i := range 32 {
			b[i] ^= 0x81
			refused(t, "invalid in the first 32 bytes", key, b, api.ErrMac)
			b[i] ^= 0x81
		}
	}
}

// Where the count of bytes is wrong, the sum does not count.
func TestTheLengthComesFirst(t *testing.T) {
	key := []byte("k")
	right := worded(key, sample)
	for i := range right {
		b := bytes.Clone(right)
		b[i] ^= 1
		refused(t, "a byte fewer, one changed", key, b[:63], api.ErrForm)
		refused(t, "a byte more, one changed", key, with(b, 0), api.ErrForm)
		refused(t, "half, one changed", key, b[:32], api.ErrForm)
	}
	refused(t, "a byte fewer, another key", []byte("j"), right[:63], api.ErrForm)
	refused(t, "a byte more, another key", []byte("j"), with(right, 0), api.ErrForm)
}

func TestManyCookies(t *testing.T) {
	d := dice(12)
	for n := range 5000 {
		key := row(d.below([]int{1, 10, 70, 140}[n%4]), n)
		c := anyCookie(&d)
		written(t, key, c)
		judged(t, key, c)
		reads(t, key, cookie.Write(key, mended(c)), mended(c))
	}
}

// Any 32 bytes with their sum are a cookie if it is valid, and are written from it again.
func TestManyRowsOfBytes(t *testing.T) {
	key := []byte("k")
	read := 0
	for n := range 5000 {
		text := row(32, n)
		b := summed(key, text)
		c, e := cookie.Read(key, b)
		// Only the first bit decides here: that a tag or a number of streams is 0 does not come up.
		if want := text[0] < 128; (e == api.OK) != want || !want && (e != api.ErrForm || c != api.Cookie{}) {
			t.Errorf("P11.1: %x: %+v, error %d", text, c, e)
		}
		if e == api.OK {
			read++
			if got := cookie.Write(key, c); !bytes.Equal(got, b) {
				t.Errorf("P11.4: %x is written again as %x", b, got)
			}
		}
		refused(t, "64 bytes without a sum", key, row(64, n), api.ErrMac)
	}
	if read < 1000 {
		t.Errorf("only %d rows were read", read)
	}
}

func TestWhatWasWrittenIsRead(t *testing.T) {
	d := dice(13)
	for n := range 300 {
		key, c := row(n, 14), mended(anyCookie(&d))
		b := cookie.Write(key, c)
		if got, e := cookie.Read(key, b); got != c || e != api.OK {
			t.Errorf("P11.4: a key of %d bytes, %+v: %+v, error %d", n, c, got, e)
		}
		for i := 32; i < 64; i++ {
			right := b[i]
			for _, x := range []byte{right + 1, right - 1, ^right, right ^ 1<<(n%8)} {
				b[i] = x
				if got, e := cookie.Read(key, b); e != api.ErrMac || got != (api.Cookie{}) {
					t.Errorf("P11.4: byte %d changed: %+v, error %d", i, got, e)
				}
			}
			b[i] = right
		}
		for more := 1; more < 70; more++ {
			if got, e := cookie.Read(key, with(b, make([]byte, more)...)); e != api.ErrForm || got != (api.Cookie{}) {
				t.Errorf("P11.4: %d bytes more: %+v, error %d", more, got, e)
			}
			if more > len(b) {
				continue
			}
			if got, e := cookie.Read(key, b[:len(b)-more]); e != api.ErrForm || got != (api.Cookie{}) {
				t.Errorf("P11.4: %d bytes fewer: %+v, error %d", more, got, e)
			}
		}
	}
}

func TestFreshAboutItsBounds(t *testing.T) {
	for _, born := range []int64{0, 1, 5, 1 << 31, 1 << 32, 1 << 61, -1, -5, -1 << 40, math.MinInt64 / 2, math.MaxInt64 / 2} {
		for _, life := range []int64{0, 1, 2, 100, 1 << 31, 1 << 32, 1 << 40} {
			fresh(t, born, born-1, life, false)
			fresh(t, born, born, life, true)
			fresh(t, born, born+life/2, life, true)
			fresh(t, born, born+life, life, true)
			fresh(t, born, born+life+1, life, false)
			fresh(t, born, born-life-1, life, false)
			fresh(t, born, born+2*life+2, life, false)
		}
		for _, life := range []int64{-1, -2, -100, -1 << 32, math.MinInt64 + 1, math.MinInt64} {
			for _, now := range []int64{born - 1, born, born + 1, 0, math.MinInt64, math.MaxInt64} {
				fresh(t, born, now, life, false)
			}
		}
		for _, by := range []int64{-1, -2, -100} {
			fresh(t, born, born+by, -by, false)
			fresh(t, born, born+by, by, false)
			fresh(t, born, born+by, math.MaxInt64, false)
		}
	}
}

func TestFreshWithNegativeBorns(t *testing.T) {
	fresh(t, -5, -5, 0, true)
	fresh(t, -5, -6, 0, false)
	fresh(t, -5, -4, 0, false)
	fresh(t, -5, -4, 1, true)
	fresh(t, -5, 0, 5, true)
	fresh(t, -5, 0, 4, false)
	fresh(t, -5, 5, 10, true)
	fresh(t, -5, 5, 9, false)
	fresh(t, -1, 0, 0, false)
	fresh(t, 0, -1, 5, false)
}

// A time that goes on beyond 64 bits counts as it is.
func TestFreshBeyondSixtyFourBits(t *testing.T) {
	const least, most = math.MinInt64, math.MaxInt64
	fresh(t, least, most, most, false)
	fresh(t, least, most, 0, false)
	fresh(t, least, most, 1, false)
	fresh(t, least, 0, most, false)
	fresh(t, least, -1, most, true)
	fresh(t, least, -1, most-1, false)
	fresh(t, least+1, 0, most, true)
	fresh(t, least, least, 0, true)
	fresh(t, least, least+1, 0, false)
	fresh(t, -1, most, most, false)
	fresh(t, 0, most, most, true)
	fresh(t, 0, most, most-1, false)
	fresh(t, 1, most, most, true)
	fresh(t, most, most, 0, true)
	fresh(t, most, most, most, true)
	fresh(t, most, most-1, most, false)
	fresh(t, most, least, most, false)
	fresh(t, most, least, least, false)
	fresh(t, most-1, most, 0, false)
	fresh(t, most-1, most, 1, true)
	fresh(t, -2, most-1, most, false)
	fresh(t, -2, most-2, most, true)
	fresh(t, -2, most-2, most-1, false)
	fresh(t, -2, most-3, most-1, true)
}

func TestFreshOfAllBounds(t *testing.T) {
	l := slices.Clone(times)
	for _, x := range []int64{2, 100, 1 << 31, 1 << 32, 1 << 61, 1 << 62} {
		l = append(l, x-1, x, x+1, -x-1, -x, -x+1)
	}
	for _, born := range l {
		for _, now := range l {
			for _, life := range l {
				fresh(t, born, now, life, wordedFresh(born, now, life))
			}
		}
	}
	d := dice(15)
	for range 20000 {
		born, now, life := pick(&d, l), pick(&d, l), pick(&d, l)
		fresh(t, born, now, life, wordedFresh(born, now, life))
		// What is near a bound: the sum goes round where it has no room.
		now = born + life + int64(d.below(5)) - 2
		fresh(t, born, now, life, wordedFresh(born, now, life))
	}
}

func TestDeriveOfKnownTexts(t *testing.T) {
	for _, x := range []struct {
		key, text string
		tag, tsn  uint32
	}{
		{"", "", 0xb613679a, 0x0814d9ec},
		{"k", "", 0x8bb990c4, 0x0a7d61cb},
		{"", "hello", 0x4352b26e, 0x33fe0d76},
		{"k", "hello", 0x406e4b43, 0xf87095aa},
		{"Jefe", "what do ya want for nothing?", 0x5bdcc146, 0xbf60754e},
	} {
		if tag, tsn := cookie.Derive([]byte(x.key), []byte(x.text)); tag != x.tag || tsn != x.tsn {
			t.Errorf("P11.3: the key %q, the text %q: %x and %x, not %x and %x", x.key, x.text, tag, tsn, x.tag, x.tsn)
		}
	}
}

// The texts were found by trying some 2^34 of them: the first four bytes of the sums of three are zero, and the second four of those of two.
func TestDeriveOfZeros(t *testing.T) {
	for _, x := range []struct {
		text     string
		tag, tsn uint32
	}{
		{"3608552097", 1, 0xa6d718f3},
		{"4699555735", 1, 0x3bd1687b},
		{"13144210372", 1, 0x5fc478f4},
		{"12032269158", 0x225bb0e9, 0},
		{"15917757941", 0xf93bb47c, 0},
	} {
		derived(t, []byte("k"), []byte(x.text))
		if tag, tsn := cookie.Derive([]byte("k"), []byte(x.text)); tag != x.tag || tsn != x.tsn {
			t.Errorf("P11.3: the text %s: %x and %x, not %x and %x", x.text, tag, tsn, x.tag, x.tsn)
		}
	}
}

func TestDeriveOfEachLength(t *testing.T) {
	for n := range 131 {
		for _, m := range []int{0, 1, 4, 8, 31, 32, 55, 56, 63, 64, 65, 200} {
			derived(t, row(n, 16), row(m, 17))
			derived(t, row(m, 16), row(n, 17))
			derived(t, make([]byte, n), make([]byte, m))
		}
	}
	for _, n := range []int{1000, 4096, 65536, 1<<20 + 3} {
		derived(t, row(n, 18), row(9, 19))
		derived(t, row(9, 18), row(n, 19))
	}
	d := dice(20)
	for n := range 2000 {
		derived(t, row(d.below(70), n), row(d.below(140), n+1))
	}
}

func TestDeriveOfNil(t *testing.T) {
	b := row(40, 21)
	for _, x := range [][4][]byte{{nil, nil, {}, {}}, {nil, b, {}, b}, {b, nil, b, {}}, {nil, nil, b[:0], b[9:9]}} {
		tag, tsn := cookie.Derive(x[0], x[1])
		otherTag, otherTsn := cookie.Derive(x[2], x[3])
		if tag != otherTag || tsn != otherTsn {
			t.Errorf("R3: nil and empty: %x and %x, %x and %x", tag, tsn, otherTag, otherTsn)
		}
		derived(t, x[0], x[1])
	}
}

func TestDeriveFollowsEachBit(t *testing.T) {
	for _, n := range []int{1, 20, 64, 65, 130} {
		b, fixed := row(n, 22), row(n, 23)
		for bit := range 8 * n {
			b[bit/8] ^= 1 << (bit % 8)
			derived(t, b, fixed)
			derived(t, fixed, b)
			b[bit/8] ^= 1 << (bit % 8)
		}
	}
}

// The tag and the TSN of a cookie's first 32 bytes are the beginning of the cookie's sum.
func TestDeriveOfACookie(t *testing.T) {
	for _, key := range keys() {
		b := cookie.Write(key, sample)
		tag, tsn := cookie.Derive(key, b[:32])
		if got := laid(api.Cookie{OwnTag: tag, PeerTag: tsn})[8:16]; !bytes.Equal(got, b[32:40]) {
			t.Errorf("P11.3: a key of %d bytes: %x, not %x", len(key), got, b[32:40])
		}
	}
}

// roomy is b in an array that goes on behind it, filled with other bytes, and all of that array.
func roomy(b []byte, more int) (part, whole []byte) {
	whole = with(b, bytes.Repeat([]byte{0xa5}, more)...)
	return whole[:len(b)], whole
}

// fill makes all of b, and what lies behind it in its array, x.
func fill(b []byte, x byte) {
	b = b[:cap(b)]
	for i := range b {
		b[i] = x
	}
}

func TestNoCallChangesItsArguments(t *testing.T) {
	for _, more := range []int{0, 1, 32, 64, 200} {
		for n := range 131 {
			key, keys := roomy(row(n, 24), more)
			beforeKeys := bytes.Clone(keys)
			for _, c := range []api.Cookie{sample, {Born: -1}} {
				b, all := roomy(worded(key, c), more)
				wrong, allWrong := roomy(with(b[:63], ^b[63]), more)
				before, beforeWrong := bytes.Clone(all), bytes.Clone(allWrong)
				written(t, key, c)
				judged(t, key, c)
				cookie.Read(key, b)
				refused(t, "the last byte changed", key, wrong, api.ErrMac)
				for m := range 64 {
					refused(t, "a beginning", key, b[:m], api.ErrForm)
				}
				derived(t, key, b)
				derived(t, key, b[:n/3])
				if !bytes.Equal(keys, beforeKeys) {
					t.Fatalf("R3: a key of %d bytes, or what lies behind it, changed", n)
				}
				if !bytes.Equal(all, before) || !bytes.Equal(allWrong, beforeWrong) {
					t.Fatalf("R3: under a key of %d bytes: 64 bytes, or what lies behind them, changed", n)
				}
			}
		}
	}
}

func TestArgumentsOfOneArray(t *testing.T) {
	whole := row(300, 25)
	before := bytes.Clone(whole)
	for _, x := range [][4]int{{0, 64, 0, 64}, {0, 20, 0, 64}, {0, 20, 20, 84}, {0, 64, 64, 128}, {30, 160, 10, 74}, {70, 100, 6, 70}, {0, 0, 0, 64}} {
		key, b := whole[x[0]:x[1]], whole[x[2]:x[3]]
		refused(t, "a key and bytes of one array", key, b, api.ErrMac)
		derived(t, key, b)
		written(t, key, sample)
		if !bytes.Equal(whole, before) {
			t.Fatalf("R3: a key from %d to %d, bytes from %d to %d: the array changed", x[0], x[1], x[2], x[3])
		}
	}
	// A cookie under the key that lies ahead of it in its array.
	key := row(20, 26)
	whole = with(key, worded(key, sample)...)
	before = bytes.Clone(whole)
	reads(t, whole[:20], whole[20:], sample)
	if !bytes.Equal(whole, before) {
		t.Error("R3: a key and a cookie in one array: the array changed")
	}
}

func TestWriteAnswersNewMemory(t *testing.T) {
	for _, right := range keys() {
		key, whole := roomy(right, 100)
		b, other := cookie.Write(key, sample), cookie.Write(key, sample)
		want := worded(key, sample)
		fill(other, 0xdd)
		if !bytes.Equal(b, want) || !bytes.Equal(key, right) {
			t.Errorf("R3: a key of %d bytes, or a cookie, changes with another answer", len(right))
		}
		fill(whole, 0xee)
		if !bytes.Equal(b, want) {
			t.Errorf("R3: a cookie changes with its key of %d bytes", len(right))
		}
		written(t, right, sample)
	}
}

func TestReadAnswersNewMemory(t *testing.T) {
	for _, key := range keys() {
		b := worded(key, sample)
		c, e := cookie.Read(key, b)
		fill(b, 0xdd)
		if c != sample || e != api.OK {
			t.Errorf("R3: a cookie, once read, changes with the bytes: %+v, error %d", c, e)
		}
		refused(t, "other bytes", key, b, api.ErrMac)
		copy(b, worded(key, sample))
		c.Born, c.OwnTag = 1, 1
		reads(t, key, b, sample)
	}
}

// What was called before changes no answer.
func TestAnswersStay(t *testing.T) {
	d := dice(27)
	for n := range 300 {
		key, c := row(n%131, n), anyCookie(&d)
		b := worded(key, c)
		for range 2 {
			written(t, key, c)
			judged(t, key, c)
			derived(t, key, b)
			fresh(t, 5, 7, 2, true)
			cookie.Write(row(9, n), anyCookie(&d))
			refused(t, "half a cookie", key, b[:32], api.ErrForm)
			refused(t, "another row", key, row(64, n), api.ErrMac)
			judged(t, row(70, n), anyCookie(&d))
			cookie.Derive(b, key)
			fresh(t, 5, 8, 2, false)
		}
	}
}

func TestCallsFollowChangedKeys(t *testing.T) {
	for _, n := range []int{1, 20, 64, 65, 130} {
		key := full(n, 28)
		old := cookie.Write(key, sample)
		key[n-1] ^= 0x80
		refused(t, "the key changed", key, old, api.ErrMac)
		written(t, key, sample)
		derived(t, key, old)
		reads(t, key, worded(key, sample), sample)
		key[n-1] ^= 0x80
		reads(t, key, old, sample)
		written(t, key, sample)
		derived(t, key, old)
	}
}
