package sha_test

import (
	"bytes"
	"crypto/sha256"
	"encoding/hex"
	"strings"
	"testing"

	"fairlead/sha"
)

const (
	digestOfNone = "e3b0c44298fc1c149afbf4c8996fb92427ae41e4649b934ca495991b7852b855"
	digestOfAbc  = "ba7816bf8f01cfea414140de5dae2223b00361a396177a9cb410ff61f20015ad"
)

// text is a digest as 64 hexadecimal digits.
func text(digest [32]byte) string {
	return hex.EncodeToString(digest[:])
}

// dice is a row of numbers that is the same each time.
type dice uint64

func (d *dice) below(n int) int {
	*d = *d*6364136223846793005 + 1442695040888963407
	return int(uint64(*d) >> 33 % uint64(n))
}

// row is n bytes that differ with n and seed, the same ones each time.
func row(n, seed int) []byte {
	d := dice(1000*seed + n)
	l := make([]byte, n)
	for i := range l {
		l[i] = byte(d.below(256))
	}
	return l
}

// written is a state to which the parts have been written in order.
func written(parts ...[]byte) *sha.State {
	s := sha.New()
	for _, p := range parts {
		s.Write(p)
	}
	return s
}

func TestExamples(t *testing.T) {
	for b, want := range map[string]string{"abc": digestOfAbc, "": digestOfNone} {
		if got := text(sha.Sum([]byte(b))); got != want {
			t.Errorf("P6.1: of %q: %s, not %s", b, got, want)
		}
		if got := text(written([]byte(b)).Sum()); got != want {
			t.Errorf("P6.2: of %q written: %s, not %s", b, got, want)
		}
	}
	if got := text(sha.Sum(nil)); got != digestOfNone {
		t.Errorf("P6.1: of nil: %s, not %s", got, digestOfNone)
	}
}

func TestKnownSums(t *testing.T) {
	for _, x := range []struct{ b, want string }{
		{"abcdbcdecdefdefgefghfghighijhijkijkljklmklmnlmnomnopnopq", "248d6a61d20638b8e5c026930c3e6039a33ce45964ff2167f6ecedd419db06c1"},
		{"abcdefghbcdefghicdefghijdefghijkefghijklfghijklmghijklmnhijklmnoijklmnopjklmnopqklmnopqrlmnopqrsmnopqrstnopqrstu", "cf5b16a778af8380036ce59e7b0492370b249b11e8f07a51afac45037afee9d1"},
		{strings.Repeat("a", 1000000), "cdc76e5c9914fb9281a1c7e284d73e67f1809a48a497200e046d39ccc7112cd0"},
		{"a", "ca978112ca1bbdcafac231b39a23dc4da786eff8147c4e72b9807785afee48bb"},
		{strings.Repeat("a", 55), "9f4390f8d30c2dd92ec9f095b65e2b9ae9b0a925a5258e241c9f1e910f734318"},
		{strings.Repeat("a", 56), "b35439a4ac6f0948b6d6f9e3c6af0f5f590ce20f1bde7090ef7970686ec6738a"},
		{strings.Repeat("a", 63), "7d3e74a05d7db15bce4ad9ec0658ea98e3f06eeecf16b4c6fff2da457ddc2f34"},
		{strings.Repeat("a", 64), "ffe054fe7ae0cb6dc65c3af9b61d5209f439851db43d0ba5997337df154668eb"},
		{strings.Repeat("a", 119), "31eba51c313a5c08226adf18d4a359cfdfd8d2e816b13f4af952f7ea6584dcfb"},
		{strings.Repeat("a", 120), "2f3d335432c70b580af0e8e1b3674a7c020d683aa5f73aaaedfdc55af904c21c"},
		{strings.Repeat("a", 128), "6836cf13bac400e9105071cd6af47084dfacad4e5e302c94bfed24e013afb73e"},
	} {
		if got := text(sha.Sum([]byte(x.b))); got != x.want {
			t.Errorf("P6.1: of %d bytes: %s, not %s", len(x.b), got, x.want)
		}
		if got := text(written([]byte(x.b)).Sum()); got != x.want {
			t.Errorf("P6.2: of %d bytes written: %s, not %s", len(x.b), got, x.want)
		}
	}
}

func TestEachLength(t *testing.T) {
	for n := range 201 {
		for _, b := range [][]byte{make([]byte, n), bytes.Repeat([]byte{0xff}, n), bytes.Repeat([]byte{0x80}, n), row(n, 1), row(n, 2)} {
			want := sha256.Sum256(b)
			if got := sha.Sum(b); got != want {
				t.Errorf("P6.1: of %d bytes: %x, not %x", n, got, want)
			}
			if got := written(b).Sum(); got != want {
				t.Errorf("P6.2: of %d bytes written: %x, not %x", n, got, want)
			}
		}
	}
}

func TestLongTexts(t *testing.T) {
	for _, n := range []int{255, 256, 257, 1000, 4095, 4096, 8191, 8192, 65535, 65536, 1<<20 + 3} {
		b := row(n, 3)
		if got, want := sha.Sum(b), sha256.Sum256(b); got != want {
			t.Errorf("P6.1: of %d bytes: %x, not %x", n, got, want)
		}
	}
}

// The length in bits needs more than 4 bytes from 2^29 bytes on.
func TestLengthOfMoreThanFourBytes(t *testing.T) {
	piece := bytes.Repeat([]byte{'a'}, 1<<20)
	s := sha.New()
	for range 1 << 9 {
		s.Write(piece)
	}
	want := "b9045a713caed5dff3d3b783e98d1ce5778d8bc331ee4119d707072312af06a7"
	if got := text(s.Sum()); got != want {
		t.Errorf("P6.2: of 2^29 bytes: %s, not %s", got, want)
	}
}

func TestEachBitCounts(t *testing.T) {
	b := row(130, 4)
	for bit := range 8 * len(b) {
		b[bit/8] ^= 1 << (bit % 8)
		if got, want := sha.Sum(b), sha256.Sum256(b); got != want {
			t.Errorf("P6.1: with bit %d flipped: %x, not %x", bit, got, want)
		}
		b[bit/8] ^= 1 << (bit % 8)
	}
}

func TestNewStateIsOfNoBytes(t *testing.T) {
	s := sha.New()
	if s == nil {
		t.Fatal("P6.2: New is nil")
	}
	if got := text(s.Sum()); got != digestOfNone {
		t.Errorf("P6.2: of a new state: %s, not %s", got, digestOfNone)
	}
}

func TestZeroStateIsOfNoBytes(t *testing.T) {
	for n := range 201 {
		b := row(n, 5)
		var s sha.State
		if got := text(s.Sum()); got != digestOfNone {
			t.Errorf("P6.2: of a zero state: %s, not %s", got, digestOfNone)
		}
		s.Write(b[:n/3])
		s.Write(b[n/3:])
		if got, want := s.Sum(), sha256.Sum256(b); got != want {
			t.Errorf("P6.2: of %d bytes written to a zero state: %x, not %x", n, got, want)
		}
	}
}

func TestNilState(t *testing.T) {
	var s *sha.State
	if got := s.Sum(); got != [32]byte{} {
		t.Errorf("P6.2: of a nil state: %x", got)
	}
	for _, b := range [][]byte{nil, {}, {1}, row(64, 6), row(200, 6)} {
		s.Write(b)
		if got := s.Sum(); got != [32]byte{} {
			t.Errorf("P6.2: of a nil state, %d bytes written: %x", len(b), got)
		}
	}
}

func TestDivisionsInTwo(t *testing.T) {
	for n := range 201 {
		b := row(n, 7)
		want := sha256.Sum256(b)
		for i := range n + 1 {
			if got := written(b[:i], b[i:]).Sum(); got != want {
				t.Errorf("consequence: %d bytes divided at %d: %x, not %x", n, i, got, want)
			}
		}
	}
}

func TestDivisionsInThree(t *testing.T) {
	b := row(150, 8)
	want := sha256.Sum256(b)
	for i := range len(b) + 1 {
		for k := i; k <= len(b); k++ {
			if got := written(b[:i], b[i:k], b[k:]).Sum(); got != want {
				t.Errorf("consequence: divided at %d and %d: %x, not %x", i, k, got, want)
			}
		}
	}
}

// testDivisions writes b in each of the divisions that some of the cuts make.
func testDivisions(t *testing.T, b []byte, cuts []int) {
	want := sha256.Sum256(b)
	for set := range 1 << len(cuts) {
		s, from := sha.New(), 0
		for i, cut := range cuts {
			if set>>i&1 == 1 {
				s.Write(b[from:cut])
				from = cut
			}
		}
		s.Write(b[from:])
		if got := s.Sum(); got != want {
			t.Errorf("consequence: %d bytes, division %b: %x, not %x", len(b), set, got, want)
		}
	}
}

func TestEveryDivisionOfAShortText(t *testing.T) {
	testDivisions(t, []byte("fairleads"), []int{1, 2, 3, 4, 5, 6, 7, 8})
}

func TestDivisionsAroundTheEndsOfBlocks(t *testing.T) {
	testDivisions(t, row(140, 9), []int{1, 8, 55, 56, 63, 64, 65, 100, 127, 128, 129})
}

func TestPiecesOfOneSize(t *testing.T) {
	b := row(400, 10)
	want := sha256.Sum256(b)
	for size := 1; size <= len(b); size++ {
		s := sha.New()
		for at := 0; at < len(b); at += size {
			s.Write(b[at:min(at+size, len(b))])
		}
		if got := s.Sum(); got != want {
			t.Errorf("consequence: in pieces of %d bytes: %x, not %x", size, got, want)
		}
	}
}

func TestPiecesOfNoBytes(t *testing.T) {
	for n := range 201 {
		b := row(n, 11)
		s := written(nil, []byte{}, nil)
		for i := range b {
			s.Write(b[i : i+1])
			s.Write(nil)
			s.Write(b[i:i])
			s.Write([]byte{})
		}
		if got, want := s.Sum(), sha256.Sum256(b); got != want {
			t.Errorf("P6.2: %d bytes with pieces of no bytes between them: %x, not %x", n, got, want)
		}
	}
}

func TestPiecesOfManySizes(t *testing.T) {
	d := dice(12)
	for run := range 300 {
		b := row(d.below(3000), run)
		s := sha.New()
		for at := 0; at < len(b); {
			n := min(d.below([]int{3, 20, 70, 400}[d.below(4)]), len(b)-at)
			s.Write(b[at : at+n])
			at += n
		}
		if got, want := s.Sum(), sha256.Sum256(b); got != want {
			t.Errorf("consequence: run %d, %d bytes: %x, not %x", run, len(b), got, want)
		}
	}
}

func TestSumChangesNothing(t *testing.T) {
	b := row(300, 13)
	s := sha.New()
	for n := range b {
		want := sha256.Sum256(b[:n])
		for range 3 {
			if got := s.Sum(); got != want {
				t.Fatalf("P6.2: after %d bytes: %x, not %x", n, got, want)
			}
		}
		s.Write(b[n : n+1])
	}
	if got, want := s.Sum(), sha256.Sum256(b); got != want {
		t.Errorf("P6.2: at the end: %x, not %x", got, want)
	}
}

func TestSumBetweenTwoPieces(t *testing.T) {
	b := row(200, 14)
	for i := range len(b) + 1 {
		for _, k := range []int{i, min(i+1, 200), min(i+63, 200), min(i+64, 200), min(i+65, 200), 200} {
			s := written(b[:i])
			s.Sum()
			s.Write(b[i:k])
			if got, want := s.Sum(), sha256.Sum256(b[:k]); got != want {
				t.Errorf("P6.2: %d bytes, Sum, then up to %d: %x, not %x", i, k, got, want)
			}
		}
	}
}

func TestDigestIsNotTheState(t *testing.T) {
	s := written([]byte("abc"))
	digest := s.Sum()
	clear(digest[:])
	if got := text(s.Sum()); got != digestOfAbc {
		t.Errorf("R3: after a change of the digest: %s, not %s", got, digestOfAbc)
	}
}

func TestTwoStatesInTurns(t *testing.T) {
	for _, size := range []int{1, 7, 63, 64, 65, 130} {
		a, b := row(500, 15), row(500, 16)
		s, other := sha.New(), sha.New()
		for at := 0; at < 500; at += size {
			end := min(at+size, 500)
			s.Write(a[at:end])
			other.Write(b[at:end])
			if got, want := s.Sum(), sha256.Sum256(a[:end]); got != want {
				t.Errorf("consequence: the first of two states, %d bytes: %x, not %x", end, got, want)
			}
			if got, want := other.Sum(), sha256.Sum256(b[:end]); got != want {
				t.Errorf("consequence: the second of two states, %d bytes: %x, not %x", end, got, want)
			}
		}
	}
}

func TestManyStatesInTurns(t *testing.T) {
	d := dice(17)
	var states [9]*sha.State
	var texts [9][]byte
	for i := range states {
		states[i] = sha.New()
	}
	for step := range 3000 {
		i := d.below(len(states))
		b := row(d.below(100), step)
		states[i].Write(b)
		texts[i] = append(texts[i], b...)
		i = d.below(len(states))
		if got, want := states[i].Sum(), sha256.Sum256(texts[i]); got != want {
			t.Fatalf("consequence: step %d, state %d: %x, not %x", step, i, got, want)
		}
	}
}

func TestSumOfBytesBesideAState(t *testing.T) {
	b := row(90, 18)
	s := written(b[:40])
	sha.Sum(row(77, 19))
	s.Write(b[40:])
	if got, want := s.Sum(), sha256.Sum256(b); got != want {
		t.Errorf("consequence: with Sum of other bytes between: %x, not %x", got, want)
	}
}

func TestStateStaysWhenTheSliceChanges(t *testing.T) {
	for n := range 201 {
		b := row(n, 20)
		want := sha256.Sum256(append(bytes.Clone(b), b...))
		s, buffer := sha.New(), bytes.Clone(b)
		s.Write(buffer)
		clear(buffer)
		copy(buffer, b)
		s.Write(buffer)
		for i := range buffer {
			buffer[i] ^= 0xff
		}
		if got := s.Sum(); got != want {
			t.Errorf("consequence: %d bytes twice, changed after each Write: %x, not %x", n, got, want)
		}
	}
}

func TestNoArgumentChanges(t *testing.T) {
	for n := range 201 {
		b := row(n, 21)
		whole := append(bytes.Clone(b), bytes.Repeat([]byte{0xa5}, 100)...)
		want := bytes.Clone(whole)
		part := whole[:n]
		if got := sha.Sum(part); got != sha256.Sum256(b) {
			t.Errorf("P6.1: of %d bytes with more behind them: %x", n, got)
		}
		s := written(part, part)
		if got := s.Sum(); got != sha256.Sum256(append(bytes.Clone(b), b...)) {
			t.Errorf("P6.2: %d bytes with more behind them, written twice: %x", n, got)
		}
		if !bytes.Equal(whole, want) {
			t.Errorf("R3: %d bytes, or those behind them, changed", n)
		}
	}
}

func TestAnswersStay(t *testing.T) {
	b, other := row(200, 22), row(200, 23)
	want := sha.Sum(b)
	sha.Sum(other)
	written(other).Sum()
	if sha.Sum(b) != want || written(b).Sum() != want {
		t.Error("R5: a later call answers otherwise")
	}
	b[50] ^= 1
	sha.Sum(b)
	b[50] ^= 1
	if sha.Sum(b) != want {
		t.Error("R3: bytes of an earlier call are kept")
	}
}
