package chunk_test

import (
	"bytes"
	"testing"

	"fairlead/api"
	"fairlead/chunk"
)

// most is how many bytes a body may have.
const most = 65531

// dice is a row of numbers that is the same each time.
type dice uint64

func (d *dice) below(n int) int {
	*d = *d*6364136223846793005 + 1442695040888963407
	return int(uint64(*d) >> 33 % uint64(n))
}

// row is n bytes that differ with n and seed, the same ones each time.
func row(n, seed int) []byte {
	d := dice(1000*seed + n)
	l := make([]byte, n)
	for i := range l {
		l[i] = byte(d.below(256))
	}
	return l
}

// with is a's bytes and b's in memory of their own.
func with(a []byte, b ...byte) []byte {
	return append(bytes.Clone(a), b...)
}

// worded is the encoding of a chunk, word for word as the chapter has it.
func worded(c api.Chunk) []byte {
	length := 4 + len(c.Body)
	b := with([]byte{c.Kind, c.Flags, byte(length / 256), byte(length % 256)}, c.Body...)
	for len(b)%4 != 0 {
		b = append(b, 0)
	}
	return b
}

// sought is the chunk whose encoding b begins with, found by trying each body that b could hold.
func sought(b []byte) (c api.Chunk, n int, e api.Errno) {
	for k := 4; k <= len(b); k++ {
		c = api.Chunk{Kind: b[0], Flags: b[1], Body: b[4:k]}
		if l := worded(c); bytes.HasPrefix(b, l) {
			return c, len(l), api.OK
		}
	}
	return api.Chunk{}, 0, api.ErrForm
}

// samples are chunks of many lengths, kinds and flags.
func samples() []api.Chunk {
	l := []api.Chunk{{}, {Body: []byte{}}, {Kind: 255, Flags: 255}}
	for n := range 71 {
		l = append(l,
			api.Chunk{Kind: uint8(n), Flags: uint8(3 * n), Body: row(n, 1)},
			api.Chunk{Kind: uint8(7 * n), Body: make([]byte, n)},
			api.Chunk{Flags: uint8(n), Body: bytes.Repeat([]byte{0xff}, n)})
	}
	return l
}

func alike(c, d api.Chunk) bool {
	return c.Kind == d.Kind && c.Flags == d.Flags && bytes.Equal(c.Body, d.Body)
}

// written fails unless Write answers the encoding of c, which it returns.
func written(t *testing.T, c api.Chunk) []byte {
	t.Helper()
	got, want := chunk.Write(c), worded(c)
	if !bytes.Equal(got, want) {
		t.Errorf("P8.1: kind %d, flags %d, a body of %d bytes: %d bytes, %.12x, not %d, %.12x", c.Kind, c.Flags, len(c.Body), len(got), got, len(want), want)
	}
	return got
}

// answers fails unless Read answers that b begins with c, which has n bytes.
func answers(t *testing.T, b []byte, c api.Chunk, n int) {
	t.Helper()
	got, m, e := chunk.Read(b)
	if !alike(got, c) || m != n || e != api.OK {
		t.Errorf("P8.2: of %d bytes, %.12x: kind %d, flags %d, a body of %d, %d, %d, not kind %d, flags %d, a body of %d, %d", len(b), b, got.Kind, got.Flags, len(got.Body), m, e, c.Kind, c.Flags, len(c.Body), n)
	}
}

// refused fails unless Read answers that b begins with no chunk, with nothing beside that.
func refused(t *testing.T, b []byte) {
	t.Helper()
	c, n, e := chunk.Read(b)
	if e != api.ErrForm {
		t.Errorf("P8.2: of %d bytes, %.12x: %d, not ErrForm", len(b), b, e)
	}
	if c.Kind != 0 || c.Flags != 0 || len(c.Body) != 0 || n != 0 {
		t.Errorf("P8.2: of %d bytes, %.12x: with an error, kind %d, flags %d, a body of %d, %d", len(b), b, c.Kind, c.Flags, len(c.Body), n)
	}
}

// asSought fails unless Read answers what is found by trying.
func asSought(t *testing.T, b []byte) {
	t.Helper()
	if c, n, e := sought(b); e == api.OK {
		answers(t, b, c, n)
	} else {
		refused(t, b)
	}
}

func TestExamples(t *testing.T) {
	c := api.Chunk{Kind: 10, Body: []byte{0xaa}}
	b := []byte{0x0a, 0, 0, 5, 0xaa, 0, 0, 0}
	if got := chunk.Write(c); !bytes.Equal(got, b) {
		t.Errorf("P8.1: %x, not %x", got, b)
	}
	if got := chunk.Write(api.Chunk{Kind: 11}); !bytes.Equal(got, []byte{0x0b, 0, 0, 4}) {
		t.Errorf("P8.1: %x", got)
	}
	answers(t, with(b, 9), c, 8)
	refused(t, b[:7])
	refused(t, []byte{0x0a, 0, 0, 5, 0xaa, 0, 0, 1})
	refused(t, []byte{0x0b, 0, 0, 3})
	refused(t, nil)
	refused(t, []byte{})
}

func TestBodiesOfEachLength(t *testing.T) {
	for _, c := range samples() {
		b := written(t, c)
		answers(t, b, c, len(b))
		for more := 1; more <= 9; more++ {
			answers(t, with(b, make([]byte, more)...), c, len(b))
			answers(t, with(b, bytes.Repeat([]byte{0xff}, more)...), c, len(b))
			answers(t, with(b, row(more, 2)...), c, len(b))
		}
		answers(t, with(b, row(70000, 3)...), c, len(b))
	}
}

func TestKindsAndFlags(t *testing.T) {
	for kind := range 256 {
		for flags := range 256 {
			c := api.Chunk{Kind: uint8(kind), Flags: uint8(flags), Body: []byte{1, 2, 3, 4, 5}}
			b := written(t, c)
			answers(t, b, c, 12)
		}
	}
}

// The length counts the header and the body; the padding adds to neither the length nor the body.
func TestLengthDoesNotCountThePadding(t *testing.T) {
	for n := range 600 {
		c := api.Chunk{Kind: 9, Flags: 1, Body: row(n, 4)}
		b := chunk.Write(c)
		if want := 4 + (n+3)/4*4; len(b) != want {
			t.Fatalf("P8.1: a body of %d bytes: %d bytes, not %d", n, len(b), want)
		}
		if got := int(b[2])*256 + int(b[3]); got != 4+n {
			t.Errorf("P8.1: a body of %d bytes: the length %d", n, got)
		}
		if !bytes.Equal(b[4:4+n], c.Body) || bytes.Count(b[4+n:], []byte{0}) != len(b)-4-n {
			t.Errorf("P8.1: a body of %d bytes: %x", n, b)
		}
		if d, _, _ := chunk.Read(b); len(d.Body) != n {
			t.Errorf("P8.2: a body of %d bytes is read as one of %d", n, len(d.Body))
		}
	}
}

func TestNilAndEmptyBodies(t *testing.T) {
	for _, body := range [][]byte{nil, {}, make([]byte, 0, 9), row(5, 5)[:0], row(5, 5)[5:]} {
		c := api.Chunk{Kind: 4, Flags: 2, Body: body}
		if got := chunk.Write(c); !bytes.Equal(got, []byte{4, 2, 0, 4}) {
			t.Errorf("P8.1: %x", got)
		}
		answers(t, []byte{4, 2, 0, 4}, c, 4)
		answers(t, []byte{4, 2, 0, 4, 1}, c, 4)
	}
}

func TestBodiesAboutTheLongest(t *testing.T) {
	for n := most - 9; n <= most; n++ {
		for _, body := range [][]byte{make([]byte, n), row(n, 6)} {
			c := api.Chunk{Kind: 200, Flags: 100, Body: body}
			b := written(t, c)
			answers(t, b, c, len(b))
			answers(t, with(b, 1, 2, 3), c, len(b))
			refused(t, b[:len(b)-1])
		}
	}
	c := api.Chunk{Kind: 1, Flags: 2, Body: row(most, 7)}
	b := chunk.Write(c)
	if len(b) != 65536 || !bytes.Equal(b[:4], []byte{1, 2, 0xff, 0xff}) || b[65535] != 0 {
		t.Fatalf("P8.1: a body of %d bytes: %d bytes", most, len(b))
	}
	refused(t, b[:65534])
	b[65535] = 1
	refused(t, b)
}

// The longer ones are those whose length comes to a short one again in two bytes.
func TestBodiesThatAreTooLong(t *testing.T) {
	for _, n := range []int{most + 1, most + 2, most + 3, most + 4, most + 5, most + 6, most + 9, 1<<16 + 4, 1 << 17, 1<<17 - 4, 1<<17 + 1, 1 << 20, 1<<24 + 5} {
		for _, body := range [][]byte{make([]byte, n), row(n, 8)} {
			if got := chunk.Write(api.Chunk{Kind: 3, Flags: 4, Body: body}); len(got) != 0 {
				t.Errorf("P8.1: a body of %d bytes: %d bytes, %.12x", n, len(got), got)
			}
		}
	}
}

func TestEachTruncation(t *testing.T) {
	for _, c := range samples() {
		b := worded(c)
		for n := range b {
			refused(t, b[:n])
			refused(t, bytes.Clone(b[:n]))
		}
		answers(t, b, c, len(b))
	}
	b := worded(api.Chunk{Kind: 1, Body: row(most, 9)})
	for n := range b {
		refused(t, b[:n])
	}
}

func TestFewerThanFourBytes(t *testing.T) {
	for _, b := range [][]byte{nil, {}, {0}, {0, 0}, {0, 0, 0}, {1}, {1, 2}, {1, 2, 0}, {0xff}, {0xff, 0xff}, {0xff, 0xff, 0xff}, {11, 0, 4}, {0, 4}, {4}} {
		refused(t, b)
	}
	whole := []byte{11, 0, 0, 4}
	for n := range 4 {
		refused(t, whole[:n])
		refused(t, whole[n+1:])
	}
	answers(t, whole, api.Chunk{Kind: 11}, 4)
}

func TestLengthsBelowFour(t *testing.T) {
	for length := range 4 {
		for more := range 40 {
			refused(t, with([]byte{11, 0, 0, byte(length)}, make([]byte, more)...))
			refused(t, with([]byte{11, 7, 0, byte(length)}, row(more, 10)...))
		}
		refused(t, with([]byte{0, 0, 0, byte(length)}, make([]byte, 70000)...))
	}
}

// Whatever the length says, each number of bytes from none to more than that.
func TestEachLengthAndEachCount(t *testing.T) {
	for _, all := range [][]byte{make([]byte, 90), bytes.Repeat([]byte{1}, 90), row(90, 11)} {
		for length := range 90 {
			b := with([]byte{5, 6, 0, byte(length)}, all...)
			for n := range b {
				whole := length >= 4 && (length+3)/4*4 <= n
				if whole && bytes.Count(b[length:(length+3)/4*4], []byte{0}) == (3*length)%4 {
					answers(t, b[:n], api.Chunk{Kind: 5, Flags: 6, Body: b[4:length]}, (length+3)/4*4)
				} else {
					refused(t, b[:n])
				}
			}
		}
	}
}

func TestEachLengthOverZeroBytes(t *testing.T) {
	b := make([]byte, 65536)
	b[0], b[1] = 8, 9
	for length := range 65536 {
		b[2], b[3] = byte(length/256), byte(length%256)
		full := (length + 3) / 4 * 4
		if length < 4 {
			refused(t, b)
			continue
		}
		answers(t, b[:full], api.Chunk{Kind: 8, Flags: 9, Body: b[4:length]}, full)
		refused(t, b[:full-1])
		refused(t, b[:length-1])
	}
}

func TestLengthsOfMoreThanThereIs(t *testing.T) {
	for _, n := range []int{4, 5, 8, 12, 255, 256, 257, 4096, 65532, 65534} {
		b := make([]byte, n)
		for length := n + 1; length < 65536; length++ {
			b[2], b[3] = byte(length/256), byte(length%256)
			refused(t, b)
		}
	}
}

func TestOnlyThePaddingIsNotThere(t *testing.T) {
	for n := range 71 {
		c := api.Chunk{Kind: 6, Flags: 5, Body: row(n, 12)}
		b := worded(c)
		for k := 4 + n; k < len(b); k++ {
			refused(t, b[:k])
			refused(t, bytes.Clone(b[:k]))
		}
	}
}

func TestPaddingOfOtherBytes(t *testing.T) {
	for n := range 71 {
		b := worded(api.Chunk{Kind: 6, Flags: 5, Body: row(n, 13)})
		for i := 4 + n; i < len(b); i++ {
			for x := 1; x < 256; x++ {
				b[i] = byte(x)
				refused(t, b)
				refused(t, with(b, 0, 0, 0, 0))
			}
			b[i] = 0
		}
		for i := 4 + n; i < len(b); i++ {
			b[i] = 0xff
		}
		if n%4 != 0 {
			refused(t, b)
		}
	}
}

// Bytes of the padding must not make up for each other, whether they are put together by addition or by XOR.
func TestPaddingOfTwoOtherBytes(t *testing.T) {
	for _, x := range [][3]byte{{1, 1, 0}, {1, 0xff, 0}, {0, 0x80, 0x80}, {0xff, 0, 1}, {1, 2, 3}, {0x55, 0x56, 0x55}, {1, 0, 1}} {
		refused(t, []byte{6, 5, 0, 5, 9, x[0], x[1], x[2]})
		refused(t, []byte{6, 5, 0, 5, 9, x[0], x[1], x[2], 0, 0, 0, 0})
	}
	refused(t, []byte{6, 5, 0, 6, 9, 9, 1, 0xff})
	refused(t, []byte{6, 5, 0, 6, 9, 9, 0x80, 0x80})
}

// One byte is changed at a time: in the padding no other byte is taken, elsewhere another chunk comes out, or none.
func TestEachByteChanged(t *testing.T) {
	for _, n := range []int{0, 1, 2, 3, 4, 5, 6, 7, 8, 13, 70} {
		c := api.Chunk{Kind: 10, Flags: 1, Body: row(n, 14)}
		b := worded(c)
		for i := range b {
			was := b[i]
			for x := range 256 {
				b[i] = byte(x)
				asSought(t, b)
				asSought(t, with(b, 0, 0, 0, 0))
				asSought(t, with(b, row(300, 15)...))
				if got, _, e := chunk.Read(b); x != int(was) && e == api.OK && (alike(got, c) || i >= 4+n) {
					t.Errorf("P8.2: a body of %d bytes, byte %d made %x: the same chunk", n, i, x)
				}
			}
			b[i] = was
		}
		answers(t, b, c, len(b))
	}
}

func TestManyRowsOfBytes(t *testing.T) {
	d := dice(16)
	for run := range 30000 {
		b := row(d.below(60), run)
		if len(b) >= 4 && d.below(4) > 0 {
			b[2], b[3] = 0, byte(d.below(64))
		}
		if len(b) >= 4 && d.below(2) > 0 {
			clear(b[4+d.below(len(b)-3):])
		}
		asSought(t, b)
		if c, n, e := chunk.Read(b); e == api.OK && !bytes.Equal(chunk.Write(c), b[:n]) {
			t.Errorf("consequence: %x is written as %x", b[:n], chunk.Write(c))
		}
	}
}

func TestWhatIsWrittenIsReadAndWrittenAgain(t *testing.T) {
	d := dice(17)
	for run := range 3000 {
		c := api.Chunk{Kind: uint8(d.below(256)), Flags: uint8(d.below(256)), Body: row(d.below(300), run)}
		b := chunk.Write(c)
		for _, behind := range [][]byte{nil, {0}, {0xff}, row(d.below(40), run), make([]byte, d.below(40))} {
			answers(t, with(b, behind...), c, len(b))
			got, n, _ := chunk.Read(with(b, behind...))
			if again := chunk.Write(got); !bytes.Equal(again, b) || n != len(b) {
				t.Errorf("consequence: %.12x is written again as %.12x", b, again)
			}
		}
	}
}

// readAll is the chunks that follow one another in b, and the rest that none begins.
func readAll(b []byte) (l []api.Chunk, rest []byte) {
	for {
		c, n, e := chunk.Read(b)
		if e != api.OK || n <= 0 || n > len(b) {
			return l, b
		}
		l, b = append(l, c), b[n:]
	}
}

// laid is the encodings of chunks, one behind the other.
func laid(l []api.Chunk) []byte {
	var b []byte
	for _, c := range l {
		b = append(b, chunk.Write(c)...)
	}
	return b
}

func TestSeveralChunks(t *testing.T) {
	l := append(samples(), api.Chunk{Kind: 1, Body: row(most, 18)}, api.Chunk{Kind: 2, Body: row(most-1, 18)}, api.Chunk{Kind: 3})
	b := laid(l)
	for _, rest := range [][]byte{nil, {0}, {0, 0, 0}, {0, 0, 0, 0}, {9, 9, 0, 3}, {9, 9, 0, 5, 1}, {9, 9, 0xff, 0xff, 0, 0, 0, 0}} {
		got, left := readAll(with(b, rest...))
		if len(got) != len(l) || !bytes.Equal(left, rest) {
			t.Fatalf("consequence: of %d chunks and %x, %d are read, and %d bytes are left", len(l), rest, len(got), len(left))
		}
		for i := range l {
			if !alike(got[i], l[i]) {
				t.Errorf("consequence: chunk %d of %d is read as another", i, len(l))
			}
		}
	}
}

func TestSeveralChunksCutOff(t *testing.T) {
	l := []api.Chunk{{Kind: 1, Body: row(5, 19)}, {Kind: 2}, {Kind: 3, Body: row(4, 19)}, {Kind: 4, Body: row(7, 19)}}
	b := laid(l)
	for n := range len(b) + 1 {
		whole, at := 0, 0
		for whole < len(l) && at+len(worded(l[whole])) <= n {
			at += len(worded(l[whole]))
			whole++
		}
		got, left := readAll(b[:n])
		if len(got) != whole || !bytes.Equal(left, b[at:n]) {
			t.Errorf("consequence: of %d bytes, %d chunks are read, and %d bytes are left", n, len(got), len(left))
		}
	}
}

func TestALongRowOfChunks(t *testing.T) {
	b := bytes.Repeat([]byte{11, 0, 0, 4}, 1<<16)
	if got, left := readAll(b); len(got) != 1<<16 || len(left) != 0 {
		t.Errorf("consequence: %d chunks are read, and %d bytes are left", len(got), len(left))
	}
}

func TestNoArgumentChanges(t *testing.T) {
	behind := bytes.Repeat([]byte{0xa5}, 40)
	for n := range 71 {
		body := row(n, 20)
		bodies := with(body, behind...)
		c := api.Chunk{Kind: 3, Flags: 4, Body: bodies[:n]}
		b := written(t, c)
		encodings := with(b, behind...)
		for k := range len(b) + 1 {
			if k == len(b) {
				answers(t, encodings[:k], c, k)
			} else {
				refused(t, encodings[:k])
			}
		}
		answers(t, encodings, c, len(b))
		if !bytes.Equal(bodies, with(body, behind...)) {
			t.Errorf("R3: a body of %d bytes, or what lies behind it, changed", n)
		}
		if !bytes.Equal(encodings, with(worded(c), behind...)) {
			t.Errorf("R3: the bytes of a body of %d bytes, or what lies behind them, changed", n)
		}
	}
	body := bytes.Repeat([]byte{0xa5}, most+50)
	chunk.Write(api.Chunk{Body: body[:most+1]})
	chunk.Write(api.Chunk{Body: body[:most]})
	if bytes.Count(body, []byte{0xa5}) != len(body) {
		t.Error("R3: a long body, or what lies behind it, changed")
	}
}

// fill makes all bytes of b and those behind it within its capacity x.
func fill(b []byte, x byte) {
	b = b[:cap(b)]
	for i := range b {
		b[i] = x
	}
}

func TestWriteAnswersNewMemory(t *testing.T) {
	for n := range 71 {
		for _, more := range []int{0, 1, 3, 40} {
			bodies := row(n+more, 21)
			c := api.Chunk{Kind: 1, Body: bodies[:n]}
			want := worded(c)
			b, other := chunk.Write(c), chunk.Write(c)
			fill(other, 0xee)
			if !bytes.Equal(b, want) || !bytes.Equal(bodies, row(n+more, 21)) {
				t.Errorf("R3: a body of %d bytes and %d behind it, or what was written of it, changes with another answer", n, more)
			}
			fill(bodies, 0xdd)
			if !bytes.Equal(b, want) {
				t.Errorf("R3: what was written of a body of %d bytes and %d behind it changes with the body", n, more)
			}
		}
	}
}

func TestReadAnswersNewMemory(t *testing.T) {
	for n := range 71 {
		for _, more := range []int{0, 1, 3, 40} {
			body := row(n, 22)
			whole := with(worded(api.Chunk{Kind: 1, Body: body}), row(more, 23)...)
			b := bytes.Clone(whole)
			c, _, _ := chunk.Read(b)
			other, _, _ := chunk.Read(b)
			fill(other.Body, 0xee)
			if !bytes.Equal(c.Body, body) || !bytes.Equal(b, whole) {
				t.Errorf("R3: a body of %d bytes that was read, or the bytes with %d behind them, changes with another answer", n, more)
			}
			fill(b, 0xdd)
			if !bytes.Equal(c.Body, body) {
				t.Errorf("R3: a body of %d bytes that was read changes with the bytes, with %d behind them", n, more)
			}
		}
	}
}

// What was called before changes no answer.
func TestAnswersStay(t *testing.T) {
	l := samples()
	for i, c := range l {
		b := written(t, c)
		refused(t, b[:len(b)-1])
		written(t, l[len(l)-1-i])
		chunk.Write(api.Chunk{Kind: 9, Body: make([]byte, most+1)})
		answers(t, b, c, len(b))
		chunk.Read(row(90, i))
		answers(t, b, c, len(b))
		written(t, c)
	}
}

func TestReadFollowsChangedBytes(t *testing.T) {
	c := api.Chunk{Kind: 1, Flags: 2, Body: []byte{3, 4, 5, 6, 7}}
	b := chunk.Write(c)
	answers(t, b, c, 12)
	b[0], b[1], b[8] = 9, 8, 6
	answers(t, b, api.Chunk{Kind: 9, Flags: 8, Body: []byte{3, 4, 5, 6, 6}}, 12)
	c.Body[0] = 99
	answers(t, written(t, c), c, 12)
}
