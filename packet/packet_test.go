package packet_test

import (
	"bytes"
	"fmt"
	"hash/crc32"
	"math"
	"slices"
	"testing"

	"fairlead/api"
	"fairlead/packet"
)

// most is how many bytes the body of a chunk may have.
const most = 65531

// alone are the kinds of chunks that must be alone, by their numbers.
var alone = []uint8{1, 2, 14}

// dice is a row of numbers that is the same each time.
type dice uint64

func (d *dice) below(n int) int {
	*d = *d*6364136223846793005 + 1442695040888963407
	return int(uint64(*d) >> 33 % uint64(n))
}

// row is n bytes that differ with n and seed, the same ones each time.
func row(n, seed int) []byte {
	d := dice(1000*seed + n)
	l := make([]byte, n)
	for i := range l {
		l[i] = byte(d.below(256))
	}
	return l
}

// with is a's bytes and b's in memory of their own.
func with(a []byte, b ...byte) []byte {
	return append(bytes.Clone(a), b...)
}

// bare is a chunk of a kind without a body.
func bare(kind uint8) api.Chunk {
	return api.Chunk{Kind: kind}
}

// of is a packet of chunks.
func of(l ...api.Chunk) api.Packet {
	return api.Packet{Tag: 0x01020304, Chunks: l}
}

// sumOf is the CRC-32C of b, by the library.
func sumOf(b []byte) uint32 {
	return crc32.Checksum(b, crc32.MakeTable(crc32.Castagnoli))
}

// summed is b with its checksum in the place for that: of all bytes, with four zero bytes in that place.
func summed(b []byte) []byte {
	b = bytes.Clone(b)
	clear(b[8:12])
	sum := sumOf(b)
	b[8], b[9], b[10], b[11] = byte(sum>>24), byte(sum>>16), byte(sum>>8), byte(sum)
	return b
}

// wordedChunk is the encoding of a chunk, word for word as its chapter has it.
func wordedChunk(c api.Chunk) []byte {
	length := 4 + len(c.Body)
	b := with([]byte{c.Kind, c.Flags, byte(length / 256), byte(length % 256)}, c.Body...)
	for len(b)%4 != 0 {
		b = append(b, 0)
	}
	return b
}

// laid is the encoding of a packet, word for word as the chapter has it, whether its chunks can share a packet or not.
func laid(p api.Packet) []byte {
	b := []byte{0x13, 0x88, 0x13, 0x88, byte(p.Tag >> 24), byte(p.Tag >> 16), byte(p.Tag >> 8), byte(p.Tag), 0, 0, 0, 0}
	for _, c := range p.Chunks {
		b = append(b, wordedChunk(c)...)
	}
	return summed(b)
}

// sharing says whether chunks can share a packet.
func sharing(l []api.Chunk) bool {
	for _, c := range l {
		if len(c.Body) > most || len(l) != 1 && slices.Contains(alone, c.Kind) {
			return false
		}
	}
	return len(l) != 0
}

// wordedSize is how many bytes the chapter gives to a packet.
func wordedSize(p api.Packet) int {
	n := 12
	for _, c := range p.Chunks {
		n += 4 + len(c.Body)
		for n%4 != 0 {
			n++
		}
	}
	return n
}

// sought is the packet whose encoding is b, found by trying each body that b could hold, chunk for chunk.
func sought(b []byte) (api.Packet, api.Errno) {
	if len(b) < 12 {
		return api.Packet{}, api.ErrForm
	}
	if !bytes.Equal(summed(b), b) {
		return api.Packet{}, api.ErrSum
	}
	p := api.Packet{Tag: uint32(b[4])<<24 | uint32(b[5])<<16 | uint32(b[6])<<8 | uint32(b[7])}
	rest := b[12:]
	for k := 4; k <= len(rest); k++ {
		c := api.Chunk{Kind: rest[0], Flags: rest[1], Body: rest[4:k]}
		if l := wordedChunk(c); len(c.Body) <= most && bytes.HasPrefix(rest, l) {
			p.Chunks = append(p.Chunks, c)
			rest, k = rest[len(l):], 3
		}
	}
	if !sharing(p.Chunks) || !bytes.Equal(laid(p), b) {
		return api.Packet{}, api.ErrForm
	}
	return p, api.OK
}

func alike(p, q api.Packet) bool {
	return p.Tag == q.Tag && slices.EqualFunc(p.Chunks, q.Chunks, func(c, d api.Chunk) bool {
		return c.Kind == d.Kind && c.Flags == d.Flags && bytes.Equal(c.Body, d.Body)
	})
}

// show is a packet in few words.
func show(p api.Packet) string {
	text := fmt.Sprintf("tag %08x, %d chunks", p.Tag, len(p.Chunks))
	for _, c := range p.Chunks[:min(len(p.Chunks), 5)] {
		text += fmt.Sprintf(", kind %d, flags %d, a body of %d %.8x", c.Kind, c.Flags, len(c.Body), c.Body)
	}
	return text
}

// head is the first bytes of b.
func head(b []byte) string {
	return fmt.Sprintf("%d bytes %x", len(b), b[:min(len(b), 40)])
}

// written fails unless Write answers the encoding of p, or no bytes if its chunks cannot share a packet.
func written(t *testing.T, p api.Packet) []byte {
	t.Helper()
	var want []byte
	if sharing(p.Chunks) {
		want = laid(p)
	}
	got := packet.Write(p)
	if !bytes.Equal(got, want) {
		t.Errorf("P10.3: %s: %s, not %s", show(p), head(got), head(want))
	}
	return got
}

// unwritten fails unless Write answers no bytes.
func unwritten(t *testing.T, p api.Packet) {
	t.Helper()
	if got := packet.Write(p); len(got) != 0 {
		t.Errorf("P10.3: %s: %s, not none", show(p), head(got))
	}
}

// answers fails unless Read answers that b is p.
func answers(t *testing.T, b []byte, p api.Packet) {
	t.Helper()
	got, e := packet.Read(b)
	if e != api.OK || !alike(got, p) {
		t.Errorf("P10.4: %s: error %d, %s, not %s", head(b), e, show(got), show(p))
	}
}

// refused fails unless Read answers the error that is wanted, with the zero packet.
func refused(t *testing.T, b []byte, want api.Errno) {
	t.Helper()
	got, e := packet.Read(b)
	if e != want {
		t.Errorf("P10.4: %s: error %d, not %d", head(b), e, want)
	}
	if got.Tag != 0 || len(got.Chunks) != 0 {
		t.Errorf("R2: %s: with error %d, %s", head(b), e, show(got))
	}
}

// asSought fails unless Read answers what is found by trying.
func asSought(t *testing.T, b []byte) {
	t.Helper()
	if p, e := sought(b); e == api.OK {
		answers(t, b, p)
	} else {
		refused(t, b, e)
	}
}

// samples are packets that can be written, of many tags, kinds, flags and lengths.
func samples() []api.Packet {
	l := []api.Packet{
		{Chunks: []api.Chunk{{}}},
		{Tag: math.MaxUint32, Chunks: []api.Chunk{{Kind: 255, Flags: 255, Body: []byte{255}}}},
		{Tag: 1, Chunks: []api.Chunk{{Body: []byte{}}, {Body: []byte{0}}, {}}},
		of(bare(11), api.Chunk{Flags: 3, Body: []byte{1, 2, 3, 4, 5}}),
	}
	for _, kind := range alone {
		l = append(l, of(bare(kind)), of(api.Chunk{Kind: kind, Flags: kind, Body: row(30, 1)}))
	}
	d := dice(2)
	for n := range 60 {
		p := api.Packet{Tag: uint32(d.below(1 << 31))}
		for k := range 1 + n%6 {
			kind := uint8(d.below(256))
			if k > 0 || n%6 > 0 {
				kind |= 16
			}
			p.Chunks = append(p.Chunks, api.Chunk{Kind: kind, Flags: uint8(d.below(256)), Body: row(d.below(50), n)})
		}
		l = append(l, p)
	}
	return l
}

func TestExamples(t *testing.T) {
	if packet.Port != 5000 {
		t.Errorf("Port is %d", packet.Port)
	}
	for _, x := range []struct {
		p    api.Packet
		want int
	}{{api.Packet{}, 12}, {of(api.Chunk{Body: make([]byte, 5)}), 24}} {
		if got := packet.Size(x.p); got != x.want {
			t.Errorf("P10.1: %s: %d, not %d", show(x.p), got, x.want)
		}
	}
	for _, x := range []struct {
		p    api.Packet
		c    api.Chunk
		mtu  int
		want bool
	}{
		{api.Packet{}, api.Chunk{}, 16, true},
		{api.Packet{}, api.Chunk{}, 15, false},
		{of(api.Chunk{}), bare(api.KindInit), 1500, false},
		{of(api.Chunk{}), bare(api.KindSack), 1500, true},
	} {
		if got := packet.Fits(x.p, x.c, x.mtu); got != x.want {
			t.Errorf("P10.2: %s and kind %d in %d: %v", show(x.p), x.c.Kind, x.mtu, got)
		}
	}
	unwritten(t, api.Packet{})
	unwritten(t, api.Packet{Tag: 7, Chunks: []api.Chunk{}})
	refused(t, make([]byte, 11), api.ErrForm)
	refused(t, make([]byte, 12), api.ErrSum)
	refused(t, summed(make([]byte, 12)), api.ErrForm)
}

// The sum was found with neither this program nor the library.
func TestOnePacketByteForByte(t *testing.T) {
	p := of(bare(api.KindCookieAck), api.Chunk{Kind: api.KindData, Flags: 3, Body: []byte{1, 2, 3, 4, 5}})
	want := []byte{
		0x13, 0x88, 0x13, 0x88, 1, 2, 3, 4, 0x32, 0x66, 0xe6, 0x03,
		11, 0, 0, 4,
		0, 3, 0, 9, 1, 2, 3, 4, 5, 0, 0, 0,
	}
	if got := packet.Write(p); !bytes.Equal(got, want) {
		t.Errorf("P10.3: %x, not %x", got, want)
	}
	answers(t, want, p)
}

func TestSizes(t *testing.T) {
	full := []int{0, 4, 4, 4, 4, 8, 8, 8, 8, 12}
	for n := range 71 {
		c := api.Chunk{Kind: uint8(n), Flags: 9, Body: row(n, 3)}
		one := 4 + n/4*4 + full[n%4]
		if got := packet.Size(of(c)); got != 12+one {
			t.Errorf("P10.1: one body of %d bytes: %d, not %d", n, got, 12+one)
		}
		for more := range full {
			d := api.Chunk{Kind: 1, Body: row(more, 4)}
			want := 12 + 2*one + 4 + full[more]
			for _, l := range [][]api.Chunk{{c, d, c}, {d, c, c}, {c, c, d}} {
				if got := packet.Size(of(l...)); got != want {
					t.Errorf("P10.1: bodies of %d, %d and %d bytes: %d, not %d", n, n, more, got, want)
				}
			}
		}
	}
}

// Size asks neither for a packet that can be written nor for the mtu.
func TestSizesOfMuch(t *testing.T) {
	for _, x := range []struct {
		p    api.Packet
		want int
	}{
		{of(), 12},
		{api.Packet{Tag: math.MaxUint32}, 12},
		{of(bare(1), bare(2), bare(14)), 24},
		{of(slices.Repeat([]api.Chunk{{}}, 100000)...), 400012},
		{of(slices.Repeat([]api.Chunk{{Body: []byte{1}}}, 100000)...), 800012},
		{of(api.Chunk{Body: make([]byte, most)}), 65548},
		{of(api.Chunk{Body: make([]byte, most+1)}), 65548},
		{of(api.Chunk{Body: make([]byte, most+2)}), 65552},
		{of(api.Chunk{Body: make([]byte, 1<<24+1)}), 1<<24 + 20},
		{of(slices.Repeat([]api.Chunk{{Body: make([]byte, 1<<20)}}, 1<<12)...), 1<<32 + 1<<14 + 12},
	} {
		if got := packet.Size(x.p); got != x.want {
			t.Errorf("P10.1: %s: %d, not %d", show(x.p), got, x.want)
		}
	}
	for _, p := range samples() {
		if got := packet.Size(p); got != wordedSize(p) || got != len(packet.Write(p)) {
			t.Errorf("P10.1: %s: %d, not %d", show(p), got, wordedSize(p))
		}
	}
}

func TestAloneOfEachKind(t *testing.T) {
	for kind := range 256 {
		want := kind == 1 || kind == 2 || kind == 14
		if got := packet.Alone(uint8(kind)); got != want {
			t.Errorf("P10.1: kind %d: %v", kind, got)
		}
	}
}

// fits fails unless Fits answers what the chapter says, at each mtu about the packet's size and at those far from it.
func fits(t *testing.T, p api.Packet, c api.Chunk) {
	t.Helper()
	all := api.Packet{Tag: p.Tag, Chunks: append(slices.Clone(p.Chunks), c)}
	size := wordedSize(all)
	for _, mtu := range []int{
		size - 1, size, size + 1, size - 4, size + 4, size - 3, size + 3, 2 * size,
		-size, -size - 1, 0, 1, -1, 4, 12, math.MinInt, math.MinInt + 1, -1 << 32, 1 << 32, math.MaxInt - 1, math.MaxInt,
	} {
		want := sharing(all.Chunks) && mtu >= size
		if got := packet.Fits(p, c, mtu); got != want {
			t.Errorf("P10.2: %s and kind %d with a body of %d in %d: %v", show(p), c.Kind, len(c.Body), mtu, got)
		}
	}
}

func TestFitsAboutTheMtu(t *testing.T) {
	for n := range 40 {
		c := api.Chunk{Kind: api.KindData, Body: row(n, 5)}
		fits(t, api.Packet{}, c)
		for more := range 9 {
			d := api.Chunk{Kind: api.KindSack, Body: row(more, 6)}
			fits(t, of(d), c)
			fits(t, of(c, d), d)
			fits(t, of(d, d, c), bare(9))
		}
	}
	fits(t, of(slices.Repeat([]api.Chunk{{Kind: 9}}, 1000)...), bare(9))
	for _, p := range samples() {
		fits(t, p, bare(api.KindData))
		fits(t, p, bare(api.KindInit))
		last := len(p.Chunks) - 1
		fits(t, api.Packet{Chunks: p.Chunks[:last]}, p.Chunks[last])
	}
}

func TestFitsOfEachKind(t *testing.T) {
	for kind := range 256 {
		c := api.Chunk{Kind: uint8(kind), Body: []byte{1}}
		fits(t, api.Packet{}, c)
		for _, other := range []uint8{0, 3, 11, 13, 15, 1, 2, 14} {
			fits(t, of(bare(other)), c)
			fits(t, of(bare(other), bare(9)), c)
			fits(t, of(bare(9), bare(other)), c)
		}
		fits(t, of(c), c)
	}
	for _, x := range alone {
		if !packet.Fits(api.Packet{}, bare(x), 16) || packet.Fits(api.Packet{}, bare(x), 15) {
			t.Errorf("P10.2: kind %d by itself", x)
		}
		for _, y := range alone {
			if packet.Fits(of(bare(x)), bare(y), math.MaxInt) {
				t.Errorf("P10.2: kind %d behind kind %d", y, x)
			}
		}
	}
}

func TestFitsOfLongBodies(t *testing.T) {
	for _, n := range []int{most - 1, most, most + 1, most + 2, most + 5, 1 << 17, 1<<17 + 4, 1 << 20} {
		c := api.Chunk{Kind: api.KindEcho, Body: make([]byte, n)}
		for _, p := range []api.Packet{{}, of(bare(9)), of(bare(9), bare(1)), of(c), of(api.Chunk{Body: make([]byte, most)})} {
			fits(t, p, c)
			fits(t, p, bare(9))
		}
		for _, kind := range alone {
			fits(t, api.Packet{}, api.Chunk{Kind: kind, Body: make([]byte, n)})
		}
		if got := packet.Fits(api.Packet{}, c, math.MaxInt); got != (n <= most) {
			t.Errorf("P10.2: a body of %d bytes: %v", n, got)
		}
		if got := packet.Fits(of(c), bare(9), math.MaxInt); got != (n <= most) {
			t.Errorf("P10.2: behind a body of %d bytes: %v", n, got)
		}
	}
}

// A packet that has a fault already has no room for any chunk.
func TestFitsBehindAFault(t *testing.T) {
	for _, p := range []api.Packet{
		of(bare(1), bare(3)), of(bare(3), bare(2)), of(bare(14), bare(14)), of(bare(14)),
		of(api.Chunk{Body: make([]byte, most+1)}), of(bare(3), api.Chunk{Body: make([]byte, most+1)}, bare(3)),
	} {
		for kind := range 256 {
			if packet.Fits(p, bare(uint8(kind)), math.MaxInt) {
				t.Errorf("P10.2: %s and kind %d", show(p), kind)
			}
		}
	}
}

func TestWriteOfNoChunks(t *testing.T) {
	for _, tag := range []uint32{0, 1, 0x01020304, math.MaxUint32} {
		for _, l := range [][]api.Chunk{nil, {}, make([]api.Chunk, 0, 9), make([]api.Chunk, 5)[:0], make([]api.Chunk, 5)[5:]} {
			unwritten(t, api.Packet{Tag: tag, Chunks: l})
		}
	}
}

func TestWriteOfEachKind(t *testing.T) {
	for kind := range 256 {
		c := api.Chunk{Kind: uint8(kind), Flags: uint8(255 - kind), Body: row(kind%9, 7)}
		answers(t, written(t, of(c)), of(c))
		for _, l := range [][]api.Chunk{{c, bare(9)}, {bare(9), c}, {bare(9), c, bare(9)}, {c, c}, {c, bare(1)}, {bare(14), c}} {
			if b := written(t, of(l...)); len(b) != 0 {
				answers(t, b, of(l...))
			}
		}
	}
	for _, x := range alone {
		for kind := range 256 {
			unwritten(t, of(bare(x), bare(uint8(kind))))
			unwritten(t, of(bare(uint8(kind)), bare(x)))
			unwritten(t, of(bare(9), bare(uint8(kind)), bare(x), bare(9)))
		}
	}
}

func TestWriteOfTags(t *testing.T) {
	tags := []uint32{0, 1, 255, 256, 65535, 65536, 0x01020304, 0xfedcba98, 1 << 31, 1<<31 - 1, math.MaxUint32}
	for bit := range 32 {
		tags = append(tags, 1<<bit)
	}
	for _, tag := range tags {
		p := api.Packet{Tag: tag, Chunks: []api.Chunk{bare(3), {Kind: 4, Body: []byte{1, 2, 3}}}}
		answers(t, written(t, p), p)
	}
}

func TestWriteOfEachLength(t *testing.T) {
	for n := range 300 {
		for _, body := range [][]byte{row(n, 8), make([]byte, n), bytes.Repeat([]byte{0xff}, n)} {
			c := api.Chunk{Kind: 10, Flags: 1, Body: body}
			answers(t, written(t, of(c)), of(c))
			answers(t, written(t, of(c, bare(9), c)), of(c, bare(9), c))
		}
	}
}

func TestWriteAboutTheLongestBody(t *testing.T) {
	for n := most - 5; n <= most; n++ {
		c := api.Chunk{Kind: 10, Flags: 7, Body: row(n, 9)}
		for _, p := range []api.Packet{of(c), of(bare(9), c), of(c, bare(9)), of(c, c, bare(3), c)} {
			b := written(t, p)
			if len(b) == 0 {
				t.Errorf("P10.3: a body of %d bytes: none are written", n)
			}
			answers(t, b, p)
		}
	}
	for _, kind := range alone {
		p := of(api.Chunk{Kind: kind, Body: row(most, 9)})
		answers(t, written(t, p), p)
	}
	for _, n := range []int{most + 1, most + 2, most + 3, most + 4, most + 5, most + 9, 1<<16 + 4, 1<<17 - 4, 1 << 17, 1 << 20} {
		c := api.Chunk{Kind: 10, Flags: 7, Body: make([]byte, n)}
		for _, p := range []api.Packet{of(c), of(bare(9), c), of(c, bare(9)), of(c, c), of(api.Chunk{Kind: 1, Body: c.Body})} {
			unwritten(t, p)
		}
	}
}

// The checksum is of all bytes, with zero bytes in its place, and stands with its highest byte ahead.
func TestTheChecksumOfWhatIsWritten(t *testing.T) {
	for _, p := range samples() {
		b := packet.Write(p)
		zeroed := bytes.Clone(b)
		clear(zeroed[8:12])
		got := uint32(b[8])<<24 | uint32(b[9])<<16 | uint32(b[10])<<8 | uint32(b[11])
		if got != sumOf(zeroed) {
			t.Errorf("P10.3: %s: the checksum %08x, not %08x", show(p), got, sumOf(zeroed))
		}
	}
}

func TestManyChunks(t *testing.T) {
	for _, p := range []api.Packet{
		of(slices.Repeat([]api.Chunk{{Kind: 3}}, 20000)...),
		of(slices.Repeat([]api.Chunk{{Kind: 3, Flags: 1, Body: []byte{9, 8, 7}}}, 20000)...),
		of(samples()[1].Chunks[0], bare(3), api.Chunk{Body: row(most, 10)}, bare(4), api.Chunk{Body: row(1, 10)}),
	} {
		answers(t, written(t, p), p)
	}
}

func TestFewerThanTwelveBytes(t *testing.T) {
	whole := laid(of(bare(9)))
	for n := range 12 {
		refused(t, whole[:n], api.ErrForm)
		refused(t, whole[len(whole)-n:], api.ErrForm)
		refused(t, make([]byte, n), api.ErrForm)
		refused(t, row(n, 11), api.ErrForm)
		refused(t, bytes.Clone(whole[:n]), api.ErrForm)
	}
	refused(t, nil, api.ErrForm)
	refused(t, []byte{}, api.ErrForm)
	refused(t, whole[:12], api.ErrSum)
	refused(t, summed(whole[:12]), api.ErrForm)
}

// faults are bytes, with a right checksum, that are no packet's encoding, each with one fault or with several.
func faults() map[string][]byte {
	whole := laid(of(bare(9), api.Chunk{Kind: 3, Body: []byte{1, 2, 3, 4, 5}}))
	changed := func(at int, x byte) []byte {
		b := bytes.Clone(whole)
		b[at] ^= x
		return summed(b)
	}
	l := map[string][]byte{
		"no chunks":                  summed(whole[:12]),
		"no ports, no chunks":        summed(make([]byte, 12)),
		"padding that is not 0":      changed(len(whole)-1, 1),
		"a length below 4":           changed(15, 7),
		"a length beyond the end":    changed(18, 1),
		"the ports' bytes turned":    summed(with([]byte{0x88, 0x13, 0x88, 0x13}, whole[4:]...)),
		"the first port 0":           summed(with([]byte{0, 0}, whole[2:]...)),
		"a fault in each port":       summed(with([]byte{0x13, 0x89, 0x13, 0x89}, whole[4:]...)),
		"padding ahead of a chunk":   summed(with(with(whole[:12], 0), whole[12:]...)),
		"an INIT twice":              laid(of(bare(1), bare(1))),
		"no chunk can be so long":    summed(with(whole[:12], 3, 0, 0xff, 0xff)),
		"a port and a cut chunk":     summed(with([]byte{9, 9}, whole[2:len(whole)-1]...)),
		"a chunk beside and a cut":   summed(with(laid(of(bare(1), bare(3))), 3)),
		"a chunk beside and a chunk": laid(of(bare(3), bare(14), bare(3))),
	}
	for at := range 4 {
		for bit := range 8 {
			l[fmt.Sprintf("bit %d of byte %d of the ports", bit, at)] = changed(at, 1<<bit)
		}
	}
	for n := 13; n < len(whole); n++ {
		if n != 16 {
			l[fmt.Sprintf("cut behind byte %d", n)] = summed(whole[:n])
		}
	}
	for n := 1; n < 9; n++ {
		l[fmt.Sprintf("%d zero bytes behind", n)] = summed(with(whole, make([]byte, n)...))
		l[fmt.Sprintf("%d ones behind", n)] = summed(with(whole, bytes.Repeat([]byte{0xff}, n)...))
	}
	for _, x := range alone {
		for kind := range 256 {
			l[fmt.Sprintf("kind %d behind kind %d", kind, x)] = laid(of(bare(x), bare(uint8(kind))))
			l[fmt.Sprintf("kind %d behind kind %d of all", x, kind)] = laid(of(bare(uint8(kind)), bare(x)))
		}
	}
	return l
}

func TestFaultsOfForm(t *testing.T) {
	for name, b := range faults() {
		p, e := packet.Read(b)
		if e != api.ErrForm || p.Tag != 0 || len(p.Chunks) != 0 {
			t.Errorf("P10.4: %s: %s: error %d, %s", name, head(b), e, show(p))
		}
	}
}

// A wrong checksum comes ahead of every fault of form, if there are 12 bytes.
func TestAWrongChecksumComesFirst(t *testing.T) {
	l := faults()
	l["no fault"] = laid(of(bare(9), api.Chunk{Kind: 3, Body: []byte{1, 2, 3, 4, 5}}))
	l["no fault in one chunk"] = laid(of(bare(1)))
	for name, b := range l {
		for at := 8; at < 12; at++ {
			for bit := range 8 {
				c := bytes.Clone(b)
				c[at] ^= 1 << bit
				if p, e := packet.Read(c); e != api.ErrSum || p.Tag != 0 || len(p.Chunks) != 0 {
					t.Errorf("P10.4: %s, bit %d of byte %d turned: error %d, %s", name, bit, at, e, show(p))
				}
			}
		}
	}
}

// These are sums that are wrong in ways in which one could be reckoned.
func TestOtherChecksums(t *testing.T) {
	for _, p := range samples() {
		b := laid(p)
		sum := sumOf(with(with(b[:8], 0, 0, 0, 0), b[12:]...))
		for _, other := range []uint32{0, math.MaxUint32, ^sum, sum + 1, sum - 1, sumOf(with(b[:8], b[12:]...)), sumOf(b[12:]), sumOf(b), sumOf(b[:8])} {
			c := bytes.Clone(b)
			c[8], c[9], c[10], c[11] = byte(other>>24), byte(other>>16), byte(other>>8), byte(other)
			if other != sum {
				refused(t, c, api.ErrSum)
			}
		}
		c := bytes.Clone(b)
		slices.Reverse(c[8:12])
		if !bytes.Equal(b, c) {
			refused(t, c, api.ErrSum)
		}
	}
}

func TestBytesBehindTheLastChunk(t *testing.T) {
	for _, p := range samples() {
		b := laid(p)
		for n := 1; n < 9; n++ {
			refused(t, with(b, make([]byte, n)...), api.ErrSum)
			refused(t, summed(with(b, make([]byte, n)...)), api.ErrForm)
			asSought(t, summed(with(b, row(n, 12)...)))
		}
		c := summed(with(b, 9, 0, 0, 4))
		if packet.Alone(p.Chunks[0].Kind) {
			refused(t, c, api.ErrForm)
		} else {
			answers(t, c, api.Packet{Tag: p.Tag, Chunks: append(slices.Clone(p.Chunks), bare(9))})
		}
	}
}

func TestEachCut(t *testing.T) {
	for _, p := range samples() {
		b := laid(p)
		for n := 12; n < len(b); n++ {
			refused(t, b[:n], api.ErrSum)
			asSought(t, summed(b[:n]))
		}
		if n := len(b); n%4 == 0 {
			refused(t, summed(b[:n-1]), api.ErrForm)
		}
	}
}

// One byte is changed at a time, and the checksum with it or not.
func TestEachByteChanged(t *testing.T) {
	for _, p := range []api.Packet{
		of(bare(1)),
		of(bare(9), api.Chunk{Kind: 3, Flags: 2, Body: row(5, 13)}, bare(11)),
		of(api.Chunk{Kind: 4, Body: row(3, 13)}, bare(0)),
	} {
		b := laid(p)
		for at := range b {
			c := bytes.Clone(b)
			for x := range 256 {
				c[at] = byte(x)
				if x != int(b[at]) {
					refused(t, c, api.ErrSum)
				}
				asSought(t, summed(c))
			}
		}
	}
}

func TestPaddingOfOtherBytes(t *testing.T) {
	for n := range 9 {
		p := of(api.Chunk{Kind: 5, Body: row(n, 14)}, bare(9))
		b := laid(p)
		for at := 16 + n; at < len(b)-4; at++ {
			for x := 1; x < 256; x++ {
				c := bytes.Clone(b)
				c[at] = byte(x)
				refused(t, summed(c), api.ErrForm)
			}
		}
	}
}

func TestManyRowsOfBytes(t *testing.T) {
	d := dice(15)
	for run := range 20000 {
		b := with([]byte{0x13, 0x88, 0x13, 0x88, 1, 2, 3, 4, 0, 0, 0, 0}, row(d.below(50), run)...)
		for at := 14; at+1 < len(b) && d.below(4) > 0; at += 4 * (1 + d.below(3)) {
			b[at], b[at+1] = 0, byte(d.below(20))
		}
		if d.below(2) > 0 {
			clear(b[12+d.below(len(b)-11):])
		}
		asSought(t, summed(b))
		asSought(t, b)
	}
}

func TestWhatIsWrittenIsReadAndWrittenAgain(t *testing.T) {
	d := dice(16)
	for range 3000 {
		p := api.Packet{Tag: uint32(d.below(1<<31)) * 2}
		for k := range 1 + d.below(5) {
			p.Chunks = append(p.Chunks, api.Chunk{Kind: uint8(d.below(256)), Flags: uint8(d.below(256)), Body: row(d.below(60), k)})
		}
		b := written(t, p)
		if len(b) == 0 {
			refused(t, laid(p), api.ErrForm)
			continue
		}
		answers(t, b, p)
		again, _ := packet.Read(b)
		if c := packet.Write(again); !bytes.Equal(b, c) {
			t.Errorf("consequence: %s is written again as %s", head(b), head(c))
		}
	}
}

// flipped is b with bits turned: those of mask, the lowest one at bit from of b, counted from the least significant bit of each byte.
func flipped(b []byte, from int, mask uint32) []byte {
	c := bytes.Clone(b)
	for k := range 32 {
		if mask>>k&1 != 0 {
			c[(from+k)/8] ^= 1 << ((from + k) % 8)
		}
	}
	return c
}

// burst fails unless b is refused with bits turned that are all within 32 in a row, and all from byte begin on and ahead of byte end.
func burst(t *testing.T, b []byte, begin, end int) {
	t.Helper()
	d := dice(17)
	for from := 8 * begin; from < 8*end; from++ {
		left := min(32, 8*end-from)
		within := uint32(1)<<left - 1
		masks := []uint32{1, 3, within, 1 | 1<<(left-1), 0x55555555 & within, 0x82f63b79 & within, 1 | 0x8f6e37a0&within}
		for range 20 {
			masks = append(masks, 1|uint32(d.below(1<<31))*2&within)
		}
		for _, mask := range masks {
			if c := flipped(b, from, mask&within); !bytes.Equal(b, c) {
				refused(t, c, api.ErrSum)
			}
		}
	}
}

func TestFlippedBits(t *testing.T) {
	for _, p := range append(samples()[:20], of(api.Chunk{Kind: 3, Body: row(300, 18)})) {
		b := laid(p)
		burst(t, b, 0, 8)
		burst(t, b, 8, 12)
		burst(t, b, 12, len(b))
		for from := range 8 * len(b) {
			refused(t, flipped(b, from, 1), api.ErrSum)
		}
	}
}

// roomy is l in an array that goes on behind it, filled with more of x, and all of that array.
func roomy[E any](l []E, more int, x E) (part, whole []E) {
	whole = append(slices.Clone(l), slices.Repeat([]E{x}, more)...)
	return whole[:len(l)], whole
}

// roomyPacket is p with its chunks and bodies in arrays that go on behind them, and a text of all that those arrays hold.
func roomyPacket(p api.Packet, more int) (api.Packet, func() string) {
	other := api.Chunk{Kind: 0xa5, Flags: 0xa5, Body: []byte{0xa5, 0xa5}}
	part, whole := roomy(p.Chunks, more, other)
	texts := []func() string{}
	for i := range part {
		body, all := roomy(part[i].Body, more, 0xa5)
		part[i].Body = body
		texts = append(texts, func() string { return fmt.Sprint(all) })
	}
	p.Chunks = part
	return p, func() string {
		text := fmt.Sprint(whole, len(p.Chunks))
		for _, f := range texts {
			text += f()
		}
		return text
	}
}

// fill makes all of l, and what lies behind it in its array, x.
func fill[E any](l []E, x E) {
	l = l[:cap(l)]
	for i := range l {
		l[i] = x
	}
}

// scribble overwrites the bodies and the chunks of p, and what lies behind them in their arrays.
func scribble(p api.Packet) {
	for _, c := range p.Chunks {
		fill(c.Body, 0xee)
	}
	fill(p.Chunks, api.Chunk{Kind: 0xee, Flags: 0xee})
}

func TestNoCallChangesAPacket(t *testing.T) {
	for _, s := range append(samples(), api.Packet{}, of(bare(1), bare(2)), of(api.Chunk{Body: make([]byte, most+1)})) {
		for _, more := range []int{0, 1, 5, 40} {
			p, all := roomyPacket(s, more)
			extra, rest := roomyPacket(of(api.Chunk{Kind: 9, Flags: 8, Body: row(7, 19)}), more)
			before, beforeRest := all(), rest()
			packet.Size(p)
			packet.Write(p)
			for _, mtu := range []int{-1, 0, 1500, math.MaxInt} {
				packet.Fits(p, extra.Chunks[0], mtu)
				packet.Fits(p, bare(1), mtu)
			}
			if all() != before || rest() != beforeRest {
				t.Errorf("R3: %s, or what lies behind it, changes", show(s))
			}
		}
	}
}

func TestReadChangesNoBytes(t *testing.T) {
	for _, p := range samples() {
		for _, more := range []int{0, 1, 5, 40} {
			part, whole := roomy(laid(p), more, 0xa5)
			before := bytes.Clone(whole)
			answers(t, part, p)
			for n := range part {
				packet.Read(part[:n])
				packet.Read(part[n:])
			}
			if more > 0 {
				refused(t, whole, api.ErrSum)
			}
			if !bytes.Equal(whole, before) {
				t.Errorf("R3: the bytes of %s, or what lies behind them, change", show(p))
			}
		}
	}
	for _, b := range faults() {
		part, whole := roomy(b, 20, 0xa5)
		refused(t, part, api.ErrForm)
		if !bytes.Equal(whole, with(b, bytes.Repeat([]byte{0xa5}, 20)...)) {
			t.Errorf("R3: %s, or what lies behind them, change", head(b))
		}
	}
}

func TestWriteAnswersNewMemory(t *testing.T) {
	for _, s := range samples() {
		want := laid(s)
		p, all := roomyPacket(s, 9)
		before := all()
		b, other := packet.Write(p), packet.Write(p)
		fill(other, 0xdd)
		if !bytes.Equal(b, want) || all() != before {
			t.Errorf("R3: %s, or its bytes, change with another answer", show(s))
		}
		scribble(p)
		if !bytes.Equal(b, want) {
			t.Errorf("R3: the bytes of %s change with it", show(s))
		}
	}
}

func TestReadAnswersNewMemory(t *testing.T) {
	for _, p := range samples() {
		part, whole := roomy(laid(p), 20, 0xa5)
		before := bytes.Clone(whole)
		got, _ := packet.Read(part)
		other, _ := packet.Read(part)
		scribble(other)
		if !alike(got, p) || !bytes.Equal(whole, before) {
			t.Errorf("R3: %s, or its bytes, change with another answer", show(p))
		}
		fill(whole, 0xdd)
		if !alike(got, p) {
			t.Errorf("R3: %s, once read, changes with the bytes", show(p))
		}
		for i := range got.Chunks {
			fill(got.Chunks[i].Body, 0xee)
			got.Chunks[i].Body = p.Chunks[i].Body
			if !alike(got, p) {
				t.Errorf("R3: %s, once read: a body changes with body %d", show(p), i)
			}
		}
	}
}

// What was called before changes no answer.
func TestAnswersStay(t *testing.T) {
	l := samples()
	for i, p := range l {
		other := l[len(l)-1-i]
		b := written(t, p)
		refused(t, with(b, 0), api.ErrSum)
		answers(t, written(t, other), other)
		unwritten(t, api.Packet{})
		refused(t, b[:8], api.ErrForm)
		answers(t, b, p)
		fits(t, other, bare(3))
		fits(t, p, bare(3))
		answers(t, written(t, p), p)
		if packet.Size(p) != len(b) {
			t.Errorf("R5: %s: %d, not %d", show(p), packet.Size(p), len(b))
		}
	}
}

func TestReadFollowsChangedBytes(t *testing.T) {
	p := of(api.Chunk{Kind: 3, Body: []byte{1, 2}})
	b := laid(p)
	answers(t, b, p)
	b[7], b[16] = 9, 8
	copy(b, summed(b))
	answers(t, b, api.Packet{Tag: 0x01020309, Chunks: []api.Chunk{{Kind: 3, Body: []byte{8, 2}}}})
}
