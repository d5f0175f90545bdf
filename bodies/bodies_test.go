package bodies_test

import (
	"bytes"
	"fmt"
	"math"
	"slices"
	"testing"

	"fairlead/api"
	"fairlead/bodies"
)

// dice is a row of numbers that is the same each time.
type dice uint64

func (d *dice) below(n int) int {
	*d = *d*6364136223846793005 + 1442695040888963407
	return int(uint64(*d) >> 33 % uint64(n))
}

// row is n bytes that differ with n and seed, the same ones each time.
func row(n, seed int) []byte {
	d := dice(1000*seed + n)
	l := make([]byte, n)
	for i := range l {
		l[i] = byte(d.below(256))
	}
	return l
}

// with is a's bytes and b's in memory of their own.
func with(a []byte, b ...byte) []byte {
	return append(bytes.Clone(a), b...)
}

// laid is the bytes of numbers, each in the size of its type, and of rows of bytes.
func laid(parts ...any) []byte {
	b := []byte{}
	for _, p := range parts {
		switch x := p.(type) {
		case uint16:
			b = append(b, byte(x>>8), byte(x))
		case uint32:
			b = append(b, byte(x>>24), byte(x>>16), byte(x>>8), byte(x))
		case []byte:
			b = append(b, x...)
		case string:
			b = append(b, x...)
		default:
			panic("a part of another type")
		}
	}
	return b
}

// getter is one of the Get functions, and what it returns beside ErrForm.
type getter struct {
	promise string
	get     func(api.Chunk) (any, api.Errno)
	zero    any
}

func getterOf[V any](promise string, get func(api.Chunk) (V, api.Errno)) getter {
	var zero V
	return getter{promise, func(c api.Chunk) (any, api.Errno) { x, e := get(c); return x, e }, zero}
}

// getters are all of them, in the order of the promises.
func getters() []getter {
	return []getter{
		getterOf("P9.1", bodies.GetData),
		getterOf("P9.2", bodies.GetInit),
		getterOf("P9.3", bodies.GetSack),
		getterOf("P9.4", bodies.GetForward),
		getterOf("P9.5", bodies.GetTime),
		getterOf("P9.6", bodies.GetCum),
	}
}

// same says whether values are the same; a nil slice is the same as an empty one.
func same(x, y any) bool {
	return fmt.Sprintf("%T %v", x, x) == fmt.Sprintf("%T %v", y, y)
}

func sameChunk(c, d api.Chunk) bool {
	return c.Kind == d.Kind && c.Flags == d.Flags && bytes.Equal(c.Body, d.Body)
}

// short is the beginning of a text, or all of one that is not long.
func short(text string) string {
	return text[:min(len(text), 200)]
}

func show(x any) string {
	return short(fmt.Sprintf("%T %v", x, x))
}

func showChunk(c api.Chunk) string {
	return short(fmt.Sprintf("kind %d, flags %d, %d bytes %x", c.Kind, c.Flags, len(c.Body), c.Body))
}

// refusedBy fails unless g answers ErrForm, and the zero value with it.
func refusedBy(t *testing.T, g getter, c api.Chunk) {
	t.Helper()
	x, e := g.get(c)
	if e != api.ErrForm {
		t.Errorf("%s: %s: error %d, not ErrForm", g.promise, showChunk(c), e)
	}
	if !same(x, g.zero) {
		t.Errorf("%s: %s: with error %d, %s", g.promise, showChunk(c), e, show(x))
	}
}

// refused fails unless no Get function gets c.
func refused(t *testing.T, c api.Chunk) {
	t.Helper()
	for _, g := range getters() {
		refusedBy(t, g, c)
	}
}

// gotAs fails unless c is got as x by the Get function of x's type, and by no other.
func gotAs(t *testing.T, c api.Chunk, x any) {
	t.Helper()
	for _, g := range getters() {
		if fmt.Sprintf("%T", g.zero) != fmt.Sprintf("%T", x) {
			refusedBy(t, g, c)
			continue
		}
		got, e := g.get(c)
		if e != api.OK || !same(got, x) {
			t.Errorf("%s: %s: %s, error %d, not %s", g.promise, showChunk(c), show(got), e, show(x))
		}
	}
}

// The kinds of chunks by their numbers.
const (
	data     = 0
	begin    = 1
	beginAck = 2
	sack     = 3
	beat     = 4
	beatAck  = 5
	shutdown = 7
	forward  = 192
)

// put is the chunk of x; kind matters only where it is an argument.
func put(kind uint8, x any) api.Chunk {
	switch x := x.(type) {
	case api.Data:
		return bodies.PutData(x)
	case api.Init:
		return bodies.PutInit(kind, x)
	case api.Sack:
		return bodies.PutSack(x)
	case api.Forward:
		return bodies.PutForward(x)
	case int64:
		return bodies.PutTime(kind, x)
	case uint32:
		return bodies.PutCum(x)
	}
	panic("a value of another type")
}

// worded is the chunk of x, word for word as the chapter has it.
func worded(kind uint8, x any) api.Chunk {
	switch x := x.(type) {
	case api.Data:
		flags := map[bool]uint8{true: 4}[x.Unordered] + map[bool]uint8{true: 2}[x.First] + map[bool]uint8{true: 1}[x.Last]
		return api.Chunk{Kind: data, Flags: flags, Body: laid(x.Tsn, x.Stream, x.Ssn, "\x00\x00\x00\x00", x.Bytes)}
	case api.Init:
		b := laid(x.Tag, x.Rwnd, x.Out, x.In, x.Tsn)
		if kind == beginAck {
			b = append(b, laid("\x00\x07", uint16((4+len(x.Cookie))%65536), x.Cookie)...)
			for len(b)%4 != 0 {
				b = append(b, 0)
			}
		}
		return api.Chunk{Kind: kind, Body: b}
	case api.Sack:
		b := laid(x.Cum, x.Rwnd, uint16(len(x.Gaps)%65536), uint16(len(x.Dups)%65536))
		for _, g := range x.Gaps {
			b = append(b, laid(g.From, g.To)...)
		}
		for _, d := range x.Dups {
			b = append(b, laid(d)...)
		}
		return api.Chunk{Kind: sack, Body: b}
	case api.Forward:
		b := laid(x.Cum)
		for _, s := range x.Skips {
			b = append(b, laid(s.Stream, s.Ssn)...)
		}
		return api.Chunk{Kind: forward, Body: b}
	case int64:
		return api.Chunk{Kind: kind, Body: laid("\x00\x01\x00\x0c", uint32(uint64(x)>>32), uint32(uint64(x)))}
	case uint32:
		return api.Chunk{Kind: shutdown, Body: laid(x)}
	}
	panic("a value of another type")
}

// runs says whether gaps are, in order, all runs of the set of the numbers in them, none of which is below 2.
func runs(gaps []api.Gap) bool {
	var there [1<<16 + 1]bool
	for _, g := range gaps {
		for x := int(g.From); x <= int(g.To); x++ {
			there[x] = true
		}
	}
	if there[0] || there[1] {
		return false
	}
	var l []api.Gap
	for x := 2; x < 1<<16; x++ {
		if there[x] && !there[x-1] {
			l = append(l, api.Gap{From: uint16(x)})
		}
		if there[x] && !there[x+1] {
			l[len(l)-1].To = uint16(x)
		}
	}
	return slices.Equal(l, gaps)
}

// valid says whether x is valid, word for word as the chapter has it.
func valid(kind uint8, x any) bool {
	switch x := x.(type) {
	case api.Data:
		return len(x.Bytes) >= 1
	case api.Init:
		right := kind == begin && len(x.Cookie) == 0 || kind == beginAck && 1 <= len(x.Cookie) && len(x.Cookie) <= 65531
		return right && x.Tag != 0 && x.Out != 0 && x.In != 0
	case api.Sack:
		return runs(x.Gaps)
	case int64:
		return kind == beat || kind == beatAck
	}
	return true
}

// checks fails unless x is put as the chapter says, and what is put is got as the chapter says: as x again, if x is valid.
func checks(t *testing.T, kind uint8, x any) api.Chunk {
	t.Helper()
	c, want := put(kind, x), worded(kind, x)
	if !sameChunk(c, want) {
		t.Errorf("%s is put as %s, not %s", show(x), showChunk(c), showChunk(want))
	}
	if valid(kind, x) {
		gotAs(t, want, x)
	} else {
		asRead(t, want)
	}
	for _, g := range getters() {
		if y, e := g.get(want); e == api.OK && !sameChunk(put(kind, y), want) {
			t.Errorf("consequence: %s is put again as %s", showChunk(want), showChunk(put(kind, y)))
		}
	}
	return c
}

// reader takes a body apart from its front; it panics where there are no more bytes.
type reader []byte

func (r *reader) bytes(n int) []byte {
	b := (*r)[:n]
	*r = (*r)[n:]
	return b
}

func (r *reader) number(size int) (x uint64) {
	for _, y := range r.bytes(size) {
		x = x*256 + uint64(y)
	}
	return x
}

func (r *reader) word() uint32 { return uint32(r.number(4)) }
func (r *reader) half() uint16 { return uint16(r.number(2)) }

// read is what c says, if it says something.
func read(c api.Chunk) (x any, ok bool) {
	if c.Flags != 0 && (c.Kind != data || c.Flags > 7) {
		return nil, false
	}
	defer func() {
		if recover() != nil {
			x, ok = nil, false
		}
	}()
	r := reader(slices.Clip(c.Body))
	switch c.Kind {
	case data:
		x, ok = readData(&r, c.Flags)
	case begin, beginAck:
		x, ok = readInit(&r, c.Kind == beginAck)
	case sack:
		x, ok = readSack(&r)
	case forward:
		x, ok = readForward(&r), true
	case beat, beatAck:
		ok = r.word() == 0x0001000c
		x = int64(r.number(8))
	case shutdown:
		x, ok = r.word(), true
	}
	return x, ok && len(r) == 0 && valid(c.Kind, x)
}

func readData(r *reader, flags uint8) (api.Data, bool) {
	d := api.Data{Tsn: r.word(), Stream: r.half(), Ssn: r.half()}
	d.Unordered, d.First, d.Last = flags/4 == 1, flags/2%2 == 1, flags%2 == 1
	zero := r.word() == 0
	d.Bytes = r.bytes(len(*r))
	return d, zero
}

func readInit(r *reader, answer bool) (api.Init, bool) {
	i := api.Init{Tag: r.word(), Rwnd: r.word(), Out: r.half(), In: r.half(), Tsn: r.word()}
	if !answer {
		return i, true
	}
	right := r.half() == 7
	length := int(r.half())
	i.Cookie = r.bytes(length - 4)
	for ; length%4 != 0; length++ {
		right = r.number(1) == 0 && right
	}
	return i, right
}

func readSack(r *reader) (api.Sack, bool) {
	s := api.Sack{Cum: r.word(), Rwnd: r.word()}
	gaps, dups := r.half(), r.half()
	for range gaps {
		s.Gaps = append(s.Gaps, api.Gap{From: r.half(), To: r.half()})
	}
	for len(*r) > 0 {
		s.Dups = append(s.Dups, r.word())
	}
	return s, uint16(len(s.Dups)%65536) == dups
}

func readForward(r *reader) api.Forward {
	f := api.Forward{Cum: r.word()}
	for len(*r) > 0 {
		f.Skips = append(f.Skips, api.Skip{Stream: r.half(), Ssn: r.half()})
	}
	return f
}

// asRead fails unless c is got as what it says, or refused if it says nothing.
func asRead(t *testing.T, c api.Chunk) {
	t.Helper()
	if x, ok := read(c); ok {
		gotAs(t, c, x)
	} else {
		refused(t, c)
	}
}

// sample is a value, and the kind as which it is put.
type sample struct {
	kind uint8
	x    any
}

// samples are valid values of each type, with and without what may be absent.
func samples() []sample {
	l := []sample{
		{begin, api.Init{Tag: 1, Rwnd: 2, Out: 3, In: 4, Tsn: 5}},
		{begin, api.Init{Tag: math.MaxUint32, Rwnd: math.MaxUint32, Out: math.MaxUint16, In: math.MaxUint16, Tsn: math.MaxUint32}},
		{begin, api.Init{Tag: 1 << 24, Out: 1 << 8, In: 1}},
		{sack, api.Sack{}},
		{sack, api.Sack{Cum: 5, Rwnd: 6, Gaps: []api.Gap{{From: 2, To: 3}}, Dups: []uint32{7}}},
		{sack, api.Sack{Cum: 1 << 31, Rwnd: 1 << 16, Gaps: []api.Gap{{From: 2, To: 2}, {From: 4, To: 9}, {From: 300, To: 65535}}}},
		{sack, api.Sack{Cum: math.MaxUint32, Rwnd: math.MaxUint32, Dups: []uint32{0, math.MaxUint32, 9, 9, 8}}},
		{forward, api.Forward{}},
		{forward, api.Forward{Cum: 0x01020304, Skips: []api.Skip{{Stream: 0x0506, Ssn: 0x0708}}}},
		{forward, api.Forward{Cum: math.MaxUint32, Skips: []api.Skip{{}, {Stream: 65535, Ssn: 65535}, {}, {Stream: 3, Ssn: 2}}}},
		{shutdown, uint32(0)}, {shutdown, uint32(1)}, {shutdown, uint32(0x01020304)}, {shutdown, uint32(1 << 31)}, {shutdown, uint32(math.MaxUint32)},
	}
	for n := 1; n <= 9; n++ {
		l = append(l,
			sample{data, api.Data{Tsn: uint32(n) << 28, Stream: uint16(n), Ssn: uint16(300 * n), Unordered: n&4 != 0, First: n&2 != 0, Last: n&1 != 0, Bytes: row(n, 1)}},
			sample{beginAck, api.Init{Tag: 0x01020304, Rwnd: 0x05060708, Out: 0x090a, In: 0x0b0c, Tsn: 0x0d0e0f10, Cookie: row(n, 2)}})
	}
	for _, at := range times() {
		l = append(l, sample{beat, at}, sample{beatAck, at})
	}
	return l
}

// times are the least, the greatest, and some between them.
func times() []int64 {
	return []int64{0, 1, -1, 255, 256, -256, 1 << 31, 1 << 32, -1 << 32, 1 << 61, 1<<61 + 1, 0x0102030405060708, math.MaxInt64, math.MinInt64, math.MinInt64 + 1}
}

func TestExamples(t *testing.T) {
	d := api.Data{Tsn: 1, Stream: 2, Ssn: 3, First: true, Last: true, Bytes: []byte{0xff}}
	if c := bodies.PutData(d); !sameChunk(c, api.Chunk{Kind: 0, Flags: 3, Body: []byte{0, 0, 0, 1, 0, 2, 0, 3, 0, 0, 0, 0, 0xff}}) {
		t.Errorf("P9.1: %s", showChunk(c))
	}
	s := api.Sack{Cum: 5, Rwnd: 6, Gaps: []api.Gap{{From: 2, To: 3}}, Dups: []uint32{7}}
	body := []byte{0, 0, 0, 5, 0, 0, 0, 6, 0, 1, 0, 1, 0, 2, 0, 3, 0, 0, 0, 7}
	if c := bodies.PutSack(s); !sameChunk(c, api.Chunk{Kind: 3, Body: body}) {
		t.Errorf("P9.3: %s", showChunk(c))
	}
	gotAs(t, api.Chunk{Kind: 3, Body: body}, s)
	refused(t, api.Chunk{Kind: 3, Body: []byte{0, 0, 0, 5, 0, 0, 0, 6, 0, 1, 0, 1, 0, 1, 0, 3, 0, 0, 0, 7}})
	refused(t, api.Chunk{Kind: 3, Body: []byte{0, 0, 0, 5, 0, 0, 0, 6, 0, 1, 0, 1, 0, 3, 0, 2, 0, 0, 0, 7}})
	refused(t, api.Chunk{Kind: 3, Flags: 1, Body: body})
	refused(t, api.Chunk{Kind: 3, Body: body[:19]})
	if c := bodies.PutTime(api.KindBeat, -1); !sameChunk(c, api.Chunk{Kind: 4, Body: []byte{0, 1, 0, 0x0c, 0xff, 0xff, 0xff, 0xff, 0xff, 0xff, 0xff, 0xff}}) {
		t.Errorf("P9.5: %s", showChunk(c))
	}
	refused(t, bodies.PutInit(api.KindInit, api.Init{Out: 1, In: 1}))
	refused(t, api.Chunk{Kind: 0, Body: make([]byte, 12)})
}

func TestSamples(t *testing.T) {
	for _, s := range samples() {
		if !valid(s.kind, s.x) {
			t.Fatalf("%v is no sample", s)
		}
		checks(t, s.kind, s.x)
	}
}

func TestDataOfEachSumOfFlags(t *testing.T) {
	for flags := range uint8(8) {
		for _, n := range []int{0, 1, 2, 3, 4, 5, 70, 1500, 70000} {
			d := api.Data{Tsn: 0xfffefdfc, Stream: 0xfbfa, Ssn: 0xf9f8, Unordered: flags >= 4, First: flags%4 >= 2, Last: flags%2 == 1, Bytes: row(n, 3)}
			c := checks(t, data, d)
			if c.Flags != flags {
				t.Errorf("P9.1: %v, %v, %v: flags %d, not %d", d.Unordered, d.First, d.Last, c.Flags, flags)
			}
			if e := api.OK; n > 0 {
				if _, e = bodies.GetData(c); e != api.OK {
					t.Errorf("P9.1: flags %d, %d bytes: %d", flags, n, e)
				}
			}
		}
	}
}

func TestDataWithoutBytes(t *testing.T) {
	for _, b := range [][]byte{nil, {}, row(9, 4)[:0]} {
		c := checks(t, data, api.Data{Tsn: 1, Stream: 2, Ssn: 3, First: true, Bytes: b})
		if !sameChunk(c, api.Chunk{Flags: 2, Body: []byte{0, 0, 0, 1, 0, 2, 0, 3, 0, 0, 0, 0}}) {
			t.Errorf("P9.1: %s", showChunk(c))
		}
		refused(t, c)
	}
}

func TestDataWithOtherBytesThanZero(t *testing.T) {
	for at := 8; at < 12; at++ {
		for x := 1; x < 256; x++ {
			b := laid(uint32(1), uint16(2), uint16(3), uint32(0), "hello")
			b[at] = byte(x)
			refused(t, api.Chunk{Flags: 3, Body: b})
		}
	}
	refused(t, api.Chunk{Body: laid(uint32(1), uint16(2), uint16(3), "\x01\xff\x00\x00", "hello")})
	refused(t, api.Chunk{Body: laid(uint32(1), uint16(2), uint16(3), "\x80\x80\x00\x00", "hello")})
}

// The first byte of what the user sends may be 0, and so may all of them.
func TestDataOfZeroBytes(t *testing.T) {
	for n := 1; n < 9; n++ {
		checks(t, data, api.Data{Bytes: make([]byte, n)})
	}
}

func TestInitsWithoutWhatIsNeeded(t *testing.T) {
	for sum := range 16 {
		i := api.Init{Rwnd: 7, Tsn: 8}
		if sum&1 != 0 {
			i.Tag = 1 << 31
		}
		if sum&2 != 0 {
			i.Out = 1 << 15
		}
		if sum&4 != 0 {
			i.In = 1 << 8
		}
		if sum&8 != 0 {
			i.Rwnd, i.Tsn = 0, 0
		}
		want := api.ErrForm
		if sum&7 == 7 {
			want = api.OK
		}
		if _, e := bodies.GetInit(checks(t, begin, i)); e != want {
			t.Errorf("P9.2: %v: %d", i, e)
		}
		i.Cookie = []byte{1, 2, 3}
		if _, e := bodies.GetInit(checks(t, beginAck, i)); e != want {
			t.Errorf("P9.2: an answer, %v: %d", i, e)
		}
	}
}

func TestInitsOfEachKind(t *testing.T) {
	i := api.Init{Tag: 1, Rwnd: 2, Out: 3, In: 4, Tsn: 5}
	j := i
	j.Cookie = []byte{9, 8, 7}
	for kind := range 256 {
		c, d := bodies.PutInit(uint8(kind), i), bodies.PutInit(uint8(kind), j)
		if !sameChunk(c, worded(uint8(kind), i)) || !sameChunk(d, worded(uint8(kind), j)) {
			t.Errorf("P9.2: kind %d: %s, and with a cookie %s", kind, showChunk(c), showChunk(d))
		}
		if kind != beginAck && !sameChunk(c, d) {
			t.Errorf("P9.2: kind %d: %s, but with a cookie %s", kind, showChunk(c), showChunk(d))
		}
		for _, c := range []api.Chunk{c, d} {
			want := api.ErrForm
			if kind == begin || kind == beginAck && len(c.Body) > 20 {
				want = api.OK
			}
			if _, e := bodies.GetInit(c); e != want {
				t.Errorf("P9.2: kind %d, %s: %d", kind, showChunk(c), e)
			}
		}
	}
	gotAs(t, bodies.PutInit(begin, j), i)
	gotAs(t, bodies.PutInit(beginAck, j), j)
}

func TestAnswersWithoutCookie(t *testing.T) {
	for _, cookie := range [][]byte{nil, {}} {
		c := checks(t, beginAck, api.Init{Tag: 1, Rwnd: 2, Out: 3, In: 4, Tsn: 5, Cookie: cookie})
		if !bytes.Equal(c.Body, laid(uint32(1), uint32(2), uint16(3), uint16(4), uint32(5), "\x00\x07\x00\x04")) {
			t.Errorf("P9.2: %s", showChunk(c))
		}
		refused(t, c)
		refused(t, api.Chunk{Kind: beginAck, Body: c.Body[:16]})
		refused(t, api.Chunk{Kind: begin, Body: c.Body})
	}
}

func TestCookiesOfEachLength(t *testing.T) {
	for _, n := range []int{1, 2, 3, 4, 5, 6, 7, 8, 9, 70, 251, 252, 253, 4096, 65528, 65529, 65530, 65531} {
		for _, cookie := range [][]byte{make([]byte, n), row(n, 5), bytes.Repeat([]byte{0xff}, n)} {
			c := checks(t, beginAck, api.Init{Tag: 1, Out: 2, In: 3, Cookie: cookie})
			if i, e := bodies.GetInit(c); e != api.OK || !bytes.Equal(i.Cookie, cookie) {
				t.Errorf("P9.2: a cookie of %d bytes: one of %d, %d", n, len(i.Cookie), e)
			}
			if got := int(c.Body[18])*256 + int(c.Body[19]); got != n+4 || len(c.Body) != 20+(n+3)/4*4 {
				t.Errorf("P9.2: a cookie of %d bytes: the length %d, and a body of %d", n, got, len(c.Body))
			}
			for more := 1; more <= 4; more++ {
				refused(t, api.Chunk{Kind: beginAck, Body: with(c.Body, make([]byte, more)...)})
				refused(t, api.Chunk{Kind: beginAck, Body: c.Body[:len(c.Body)-more]})
			}
		}
	}
}

// Their lengths come to short ones again in two bytes.
func TestCookiesThatAreTooLong(t *testing.T) {
	for _, n := range []int{65532, 65533, 65534, 65535, 65536, 65537, 65540, 70000, 1 << 17, 1<<17 + 5, 1<<20 + 1} {
		c := checks(t, beginAck, api.Init{Tag: 1, Out: 2, In: 3, Cookie: row(n, 6)})
		if len(c.Body) != 20+(n+3)/4*4 {
			t.Errorf("P9.2: a cookie of %d bytes: a body of %d", n, len(c.Body))
		}
		refused(t, c)
	}
}

func TestPaddingOfCookies(t *testing.T) {
	for n := 1; n <= 9; n++ {
		b := bodies.PutInit(beginAck, api.Init{Tag: 1, Out: 2, In: 3, Cookie: row(n, 7)}).Body
		for at := 20 + n; at < len(b); at++ {
			for x := 1; x < 256; x++ {
				c := api.Chunk{Kind: beginAck, Body: with(b)}
				c.Body[at] = byte(x)
				refused(t, c)
			}
			refused(t, api.Chunk{Kind: beginAck, Body: b[:at]})
		}
		gotAs(t, api.Chunk{Kind: beginAck, Body: b}, api.Init{Tag: 1, Out: 2, In: 3, Cookie: row(n, 7)})
	}
}

func TestOtherParameters(t *testing.T) {
	for n := 1; n <= 9; n++ {
		i := api.Init{Tag: 1, Out: 2, In: 3, Cookie: bytes.Repeat([]byte{0}, n)}
		head := laid(i.Tag, i.Rwnd, i.Out, i.In, i.Tsn)
		rest := make([]byte, (n+3)/4*4)
		for x := range uint32(1 << 16) {
			if x < 600 || x%251 == 0 || x > 65000 {
				asRead(t, api.Chunk{Kind: beginAck, Body: laid(head, uint16(x), uint16(4+n), rest)})
				asRead(t, api.Chunk{Kind: beginAck, Body: laid(head, uint16(7), uint16(x), rest)})
			}
		}
		for length := range uint16(30) {
			c := api.Chunk{Kind: beginAck, Body: laid(head, uint16(7), length, rest)}
			if _, e := bodies.GetInit(c); (e == api.OK) != (length > 4 && (int(length)+3)/4*4 == 4+len(rest)) {
				t.Errorf("P9.2: the length %d over %d bytes: %d", length, len(rest), e)
			}
			refused(t, api.Chunk{Kind: beginAck, Body: laid(head, uint16(8), length, rest)})
			refused(t, api.Chunk{Kind: beginAck, Body: laid(head, uint16(0x0107), length, rest)})
		}
	}
}

// gapsOf is the gaps of pairs of numbers.
func gapsOf(numbers ...uint16) []api.Gap {
	var l []api.Gap
	for i := 0; i < len(numbers); i += 2 {
		l = append(l, api.Gap{From: numbers[i], To: numbers[i+1]})
	}
	return l
}

func TestGaps(t *testing.T) {
	for _, x := range []struct {
		gaps []api.Gap
		want api.Errno
	}{
		{nil, api.OK}, {[]api.Gap{}, api.OK},
		{gapsOf(2, 2), api.OK}, {gapsOf(2, 3), api.OK}, {gapsOf(2, 65535), api.OK}, {gapsOf(65535, 65535), api.OK}, {gapsOf(3, 9), api.OK},
		{gapsOf(0, 0), api.ErrForm}, {gapsOf(0, 5), api.ErrForm}, {gapsOf(1, 1), api.ErrForm}, {gapsOf(1, 5), api.ErrForm}, {gapsOf(0, 65535), api.ErrForm},
		{gapsOf(3, 2), api.ErrForm}, {gapsOf(65535, 2), api.ErrForm}, {gapsOf(65535, 65534), api.ErrForm}, {gapsOf(2, 1), api.ErrForm}, {gapsOf(2, 0), api.ErrForm},
		{gapsOf(2, 3, 5, 5), api.OK}, {gapsOf(2, 2, 4, 4, 6, 6), api.OK}, {gapsOf(2, 65533, 65535, 65535), api.OK},
		{gapsOf(2, 3, 4, 5), api.ErrForm}, {gapsOf(2, 2, 3, 3), api.ErrForm}, {gapsOf(2, 65534, 65535, 65535), api.ErrForm},
		{gapsOf(2, 3, 3, 5), api.ErrForm}, {gapsOf(2, 9, 4, 5), api.ErrForm}, {gapsOf(2, 9, 4, 12), api.ErrForm}, {gapsOf(4, 5, 4, 5), api.ErrForm},
		{gapsOf(5, 6, 2, 3), api.ErrForm}, {gapsOf(2, 3, 8, 9, 5, 6), api.ErrForm}, {gapsOf(2, 3, 5, 6, 7, 8), api.ErrForm}, {gapsOf(2, 3, 9, 8), api.ErrForm},
		{gapsOf(2, 65535, 0, 1), api.ErrForm}, {gapsOf(2, 65535, 1, 1), api.ErrForm}, {gapsOf(2, 65534, 0, 0), api.ErrForm}, {gapsOf(2, 65535, 2, 3), api.ErrForm},
		{gapsOf(2, 3, 0, 0), api.ErrForm}, {gapsOf(4, 3, 5, 5), api.ErrForm}, {gapsOf(4, 3, 6, 6), api.ErrForm},
	} {
		for _, dups := range [][]uint32{nil, {1}, {1, 2, 3}} {
			c := checks(t, sack, api.Sack{Cum: 1, Rwnd: 2, Gaps: x.gaps, Dups: dups})
			if s, e := bodies.GetSack(c); e != x.want || e == api.OK && (!slices.Equal(s.Gaps, x.gaps) || !slices.Equal(s.Dups, dups)) {
				t.Errorf("P9.3: the gaps %v and the dups %v: %v, %d, not %d", x.gaps, dups, s, e, x.want)
			}
		}
	}
}

func TestTwoGapsAboutEachOther(t *testing.T) {
	for a := range uint16(7) {
		for b := range uint16(7) {
			for c := range uint16(9) {
				for d := range uint16(9) {
					want := api.ErrForm
					if 2 <= a && a <= b && b+2 <= c && c <= d {
						want = api.OK
					}
					if _, e := bodies.GetSack(bodies.PutSack(api.Sack{Gaps: gapsOf(a, b, c, d)})); e != want {
						t.Errorf("P9.3: %d to %d, %d to %d: %d", a, b, c, d, e)
					}
				}
			}
		}
	}
}

// many is n gaps of one number each, as near to each other as may be.
func many(n int) []api.Gap {
	var l []api.Gap
	for k := range n {
		l = append(l, api.Gap{From: uint16(2 * (k + 1)), To: uint16(2 * (k + 1))})
	}
	return l
}

func TestManyGapsAndDups(t *testing.T) {
	for _, n := range []int{1, 2, 3, 100, 255, 256, 257, 2000, 32767} {
		dups := make([]uint32, n)
		for k := range dups {
			dups[k] = uint32(k) * 0x01020305
		}
		for _, s := range []api.Sack{{Cum: 9, Gaps: many(n)}, {Rwnd: 9, Dups: dups}, {Gaps: many(n), Dups: dups}, {Gaps: many(3), Dups: dups}, {Gaps: many(n), Dups: dups[:1]}} {
			if _, e := bodies.GetSack(checks(t, sack, s)); e != api.OK {
				t.Errorf("P9.3: %d gaps and %d dups: %d", len(s.Gaps), len(s.Dups), e)
			}
		}
	}
	if _, e := bodies.GetSack(checks(t, sack, api.Sack{Gaps: many(32768)})); e != api.ErrForm {
		t.Errorf("P9.3: 32768 gaps, the last from 0: %d", e)
	}
}

// Any number of Dups is valid, also one that does not fit into two bytes.
func TestCountsOfMoreThanTwoBytes(t *testing.T) {
	for _, n := range []int{65535, 65536, 65537, 70000, 131072} {
		dups := make([]uint32, n)
		for k := range dups {
			dups[k] = uint32(k) * 0x02030507
		}
		for _, gaps := range [][]api.Gap{nil, many(1), many(5)} {
			s := api.Sack{Cum: 3, Rwnd: 4, Gaps: gaps, Dups: dups}
			c := bodies.PutSack(s)
			if !sameChunk(c, worded(sack, s)) {
				t.Errorf("P9.3: %d dups: %s", n, showChunk(c))
			}
			got, e := bodies.GetSack(c)
			if e != api.OK || got.Cum != 3 || got.Rwnd != 4 || !slices.Equal(got.Gaps, gaps) || !slices.Equal(got.Dups, dups) {
				t.Errorf("P9.3: %d gaps and %d dups: %d and %d, %d", len(gaps), n, len(got.Gaps), len(got.Dups), e)
			}
			refused(t, api.Chunk{Kind: sack, Body: c.Body[:len(c.Body)-4]})
			refused(t, api.Chunk{Kind: sack, Body: with(c.Body, 0, 0, 0, 0)})
		}
		s := api.Sack{Gaps: make([]api.Gap, n), Dups: dups[:2]}
		if c := bodies.PutSack(s); !sameChunk(c, worded(sack, s)) || len(c.Body) != 12+4*n+8 {
			t.Errorf("P9.3: %d gaps: %s", n, showChunk(c))
		} else {
			asRead(t, c)
		}
	}
}

func TestCountsThatDoNotFitTheBody(t *testing.T) {
	s := api.Sack{Cum: 1, Rwnd: 2, Gaps: gapsOf(2, 3, 5, 5, 7, 9), Dups: []uint32{0x000b000c, 0x000e000f}}
	b := bodies.PutSack(s).Body
	for gaps := range uint16(9) {
		for dups := range uint16(9) {
			c := api.Chunk{Kind: sack, Body: laid(b[:8], gaps, dups, b[12:])}
			got, e := bodies.GetSack(c)
			if (e == api.OK) != (gaps+dups == 5) || e == api.OK && (len(got.Gaps) != int(gaps) || len(got.Dups) != int(dups)) {
				t.Errorf("P9.3: %d gaps and %d dups in a body for 5: %v, %d", gaps, dups, got, e)
			}
			asRead(t, c)
		}
	}
	for _, x := range [][2]uint16{{65535, 0}, {0, 65535}, {65535, 65535}, {65535, 6}, {6, 65535}, {0x0300, 0x0200}, {32768, 0}, {0x4000, 5}, {0x4003, 2}, {3, 0x4002}} {
		refused(t, api.Chunk{Kind: sack, Body: laid(b[:8], x[0], x[1], b[12:])})
		refused(t, api.Chunk{Kind: sack, Body: laid(b[:8], x[0], x[1])})
	}
	for gaps := range uint16(4) {
		for dups := range uint16(4) {
			asRead(t, api.Chunk{Kind: sack, Body: laid(uint32(1), uint32(2), gaps, dups)})
		}
	}
}

func TestForwardsOfManySkips(t *testing.T) {
	for _, n := range []int{0, 1, 2, 3, 100, 4096, 16384, 65536, 70000} {
		f := api.Forward{Cum: 0xfedcba98}
		for k := range n {
			f.Skips = append(f.Skips, api.Skip{Stream: uint16(7 * k), Ssn: uint16(65535 - 3*k)})
		}
		c := checks(t, forward, f)
		if len(c.Body) != 4+4*n {
			t.Errorf("P9.4: %d skips: a body of %d bytes", n, len(c.Body))
		}
		if got, e := bodies.GetForward(c); e != api.OK || got.Cum != f.Cum || !slices.Equal(got.Skips, f.Skips) {
			t.Errorf("P9.4: %d skips: %d of them, %d", n, len(got.Skips), e)
		}
		for more := 1; more <= 3; more++ {
			refused(t, api.Chunk{Kind: forward, Body: with(c.Body, make([]byte, more)...)})
			refused(t, api.Chunk{Kind: forward, Body: c.Body[:len(c.Body)-more]})
		}
	}
	for n := range 60 {
		b := row(n, 8)
		if _, e := bodies.GetForward(api.Chunk{Kind: forward, Body: b}); (e == api.OK) != (n >= 4 && n%4 == 0) {
			t.Errorf("P9.4: a body of %d bytes: %d", n, e)
		}
	}
	checks(t, forward, api.Forward{Skips: []api.Skip{}})
}

func TestTimesOfEachKind(t *testing.T) {
	for kind := range 256 {
		for _, at := range times() {
			c := checks(t, uint8(kind), at)
			want := api.ErrForm
			if kind == beat || kind == beatAck {
				want = api.OK
			}
			if got, e := bodies.GetTime(c); e != want || e == api.OK && got != at {
				t.Errorf("P9.5: %d of kind %d: %d, %d", at, kind, got, e)
			}
		}
	}
}

func TestTimesOfOtherParameters(t *testing.T) {
	for _, kind := range []uint8{beat, beatAck} {
		for at := range 4 {
			for x := range 256 {
				b := laid("\x00\x01\x00\x0c", uint32(1), uint32(2))
				if b[at] == byte(x) {
					continue
				}
				b[at] = byte(x)
				refused(t, api.Chunk{Kind: kind, Body: b})
			}
		}
		refused(t, api.Chunk{Kind: kind})
		refused(t, api.Chunk{Kind: kind, Body: laid(uint32(1), uint32(2))})
		refused(t, api.Chunk{Kind: kind, Body: laid("\x00\x01\x00\x08", uint32(1))})
		refused(t, api.Chunk{Kind: kind, Body: laid("\x00\x01\x00\x04")})
	}
}

func TestNumbers(t *testing.T) {
	for _, n := range []uint32{0, 1, 255, 256, 65535, 65536, 0x01020304, 0xfcfdfeff, 1<<31 - 1, 1 << 31, math.MaxUint32 - 1, math.MaxUint32} {
		c := bodies.PutCum(n)
		if !sameChunk(c, api.Chunk{Kind: 7, Body: []byte{byte(n >> 24), byte(n >> 16), byte(n >> 8), byte(n)}}) {
			t.Errorf("P9.6: %d: %s", n, showChunk(c))
		}
		if got, e := bodies.GetCum(c); got != n || e != api.OK {
			t.Errorf("P9.6: %d: %d, %d", n, got, e)
		}
	}
	for n := range 20 {
		if _, e := bodies.GetCum(api.Chunk{Kind: 7, Body: row(n, 9)}); (e == api.OK) != (n == 4) {
			t.Errorf("P9.6: a body of %d bytes: %d", n, e)
		}
	}
}

func TestEachCutAndEachByteMore(t *testing.T) {
	for _, s := range samples() {
		c := worded(s.kind, s.x)
		for n := range c.Body {
			asRead(t, api.Chunk{Kind: c.Kind, Flags: c.Flags, Body: c.Body[:n]})
			asRead(t, api.Chunk{Kind: c.Kind, Flags: c.Flags, Body: bytes.Clone(c.Body[:n])})
			asRead(t, api.Chunk{Kind: c.Kind, Flags: c.Flags, Body: c.Body[n:]})
		}
		for more := 1; more <= 9; more++ {
			asRead(t, api.Chunk{Kind: c.Kind, Flags: c.Flags, Body: with(c.Body, make([]byte, more)...)})
			asRead(t, api.Chunk{Kind: c.Kind, Flags: c.Flags, Body: with(c.Body, row(more, 10)...)})
		}
		if _, varies := s.x.(api.Data); !varies {
			refused(t, api.Chunk{Kind: c.Kind, Body: c.Body[:len(c.Body)-1]})
			refused(t, api.Chunk{Kind: c.Kind, Body: with(c.Body, 0)})
			refused(t, api.Chunk{Kind: c.Kind, Body: with(c.Body, 1)})
		}
	}
}

// A chunk of another kind is got, if at all, as what that kind says.
func TestEachOtherKind(t *testing.T) {
	for _, s := range samples() {
		c := worded(s.kind, s.x)
		for kind := range 256 {
			asRead(t, api.Chunk{Kind: uint8(kind), Flags: c.Flags, Body: c.Body})
		}
	}
	for kind := range 256 {
		for _, b := range [][]byte{nil, {}, {0}, make([]byte, 4), make([]byte, 12), make([]byte, 16), make([]byte, 24), row(13, 11), row(24, 11)} {
			asRead(t, api.Chunk{Kind: uint8(kind), Body: b})
		}
	}
}

func TestEachOtherFlag(t *testing.T) {
	for _, s := range samples() {
		c := worded(s.kind, s.x)
		for flags := range 256 {
			d := api.Chunk{Kind: c.Kind, Flags: uint8(flags), Body: c.Body}
			asRead(t, d)
			if flags > 7 || flags > 0 && c.Kind != data {
				refused(t, d)
			}
		}
	}
}

// One byte is changed at a time.
func TestEachByteChanged(t *testing.T) {
	for _, s := range samples() {
		c := worded(s.kind, s.x)
		for at, was := range c.Body {
			for _, x := range []byte{0, 1, 2, 7, 0x80, 0xff, was + 1, was - 1, was ^ 1, was ^ 0x80} {
				c.Body[at] = x
				asRead(t, c)
			}
			c.Body[at] = was
		}
		gotAs(t, c, s.x)
	}
}

func TestManyRowsOfBytes(t *testing.T) {
	kinds := []uint8{data, begin, beginAck, sack, beat, beatAck, shutdown, forward, 6, 8, 10, 200}
	d := dice(12)
	for run := range 20000 {
		c := api.Chunk{Kind: kinds[d.below(len(kinds))], Flags: uint8(d.below(2) * d.below(9)), Body: row(d.below(50), run)}
		for range d.below(9) {
			if n := len(c.Body); n > 0 {
				c.Body[d.below(n)] = byte(d.below(5))
			}
		}
		if n := len(c.Body); n >= 20 && d.below(3) > 0 {
			copy(c.Body[8:], laid(uint16(d.below(4)), uint16(d.below(4)), uint16(d.below(9)), uint16(d.below(9)), uint16(7), uint16(d.below(30))))
			copy(c.Body[16:], laid(uint16(7), uint16(n-16-d.below(4))))
		}
		asRead(t, c)
	}
}

func TestManyValues(t *testing.T) {
	d := dice(13)
	for run := range 3000 {
		b := row(d.below(40), run)
		checks(t, data, api.Data{Tsn: uint32(d.below(1 << 31)), Stream: uint16(d.below(1 << 16)), Ssn: uint16(d.below(1 << 16)), Unordered: d.below(2) > 0, First: d.below(2) > 0, Last: d.below(2) > 0, Bytes: b})
		i := api.Init{Tag: uint32(d.below(3)), Rwnd: uint32(d.below(1 << 31)), Out: uint16(d.below(3)), In: uint16(d.below(3)), Tsn: uint32(d.below(1 << 31)), Cookie: b}
		checks(t, beginAck, i)
		i.Cookie = nil
		checks(t, begin, i)
		s := api.Sack{Cum: uint32(d.below(1 << 31)), Rwnd: uint32(d.below(1 << 31))}
		f := api.Forward{Cum: s.Cum}
		at := 0
		for range d.below(6) {
			g := api.Gap{From: uint16(at + 1 + d.below(5))}
			at = int(g.From) + d.below(5)
			g.To = uint16(at)
			s.Gaps = append(s.Gaps, g)
			f.Skips = append(f.Skips, api.Skip{Stream: uint16(d.below(1 << 16)), Ssn: uint16(d.below(1 << 16))})
		}
		for range d.below(5) {
			s.Dups = append(s.Dups, uint32(d.below(1<<31)))
		}
		checks(t, sack, s)
		checks(t, forward, f)
	}
}

// behind is how many elements lie behind a slice in its array, each of them another than zero.
const behind = 9

// roomy is a slice with the elements of l, within an array that goes on with x behind them.
func roomy[E any](l []E, x E) (part, whole []E) {
	whole = slices.Clone(l)
	for range behind {
		whole = append(whole, x)
	}
	return whole[:len(l)], whole
}

// fill makes all elements of l, and those behind it in its array, x.
func fill[E any](l []E, x E) {
	l = l[:cap(l)]
	for i := range l {
		l[i] = x
	}
}

// scribble overwrites the slices of x, and what lies behind them in their arrays.
func scribble(x any) {
	switch x := x.(type) {
	case api.Data:
		fill(x.Bytes, 0xee)
	case api.Init:
		fill(x.Cookie, 0xee)
	case api.Sack:
		fill(x.Gaps, api.Gap{From: 0xeeee, To: 0xeeee})
		fill(x.Dups, 0xeeeeeeee)
	case api.Forward:
		fill(x.Skips, api.Skip{Stream: 0xeeee, Ssn: 0xeeee})
	}
}

// roomyValue is x with its slices in arrays that go on behind them, and a text of all that those arrays hold.
func roomyValue(x any) (any, func() string) {
	switch x := x.(type) {
	case api.Data:
		part, whole := roomy(x.Bytes, 0xa5)
		x.Bytes = part
		return x, func() string { return fmt.Sprint(whole) }
	case api.Init:
		part, whole := roomy(x.Cookie, 0xa5)
		x.Cookie = part
		return x, func() string { return fmt.Sprint(whole) }
	case api.Sack:
		gaps, allGaps := roomy(x.Gaps, api.Gap{From: 0xa5a5, To: 0xa5a5})
		dups, allDups := roomy(x.Dups, 0xa5a5a5a5)
		x.Gaps, x.Dups = gaps, dups
		return x, func() string { return fmt.Sprint(allGaps, allDups) }
	case api.Forward:
		part, whole := roomy(x.Skips, api.Skip{Stream: 0xa5a5, Ssn: 0xa5a5})
		x.Skips = part
		return x, func() string { return fmt.Sprint(whole) }
	}
	return x, func() string { return "" }
}

func TestPutKeepsToItself(t *testing.T) {
	for _, s := range samples() {
		for _, kind := range []uint8{s.kind, begin, 99} {
			want := worded(kind, s.x)
			x, all := roomyValue(s.x)
			before := all()
			c, other := put(kind, x), put(kind, x)
			if all() != before {
				t.Errorf("R3: %v, or what lies behind it, changes when it is put", s.x)
			}
			fill(other.Body, 0xdd)
			if !sameChunk(c, want) || all() != before {
				t.Errorf("R3: %v, or its chunk, changes with another chunk", s.x)
			}
			scribble(x)
			if !sameChunk(c, want) {
				t.Errorf("R3: the chunk of %v changes with it", s.x)
			}
		}
	}
}

func TestGetKeepsToItself(t *testing.T) {
	for _, s := range samples() {
		c := worded(s.kind, s.x)
		part, whole := roomy(c.Body, 0xa5)
		before := bytes.Clone(whole)
		c.Body = part
		gotAs(t, c, s.x)
		for n := range part {
			asRead(t, api.Chunk{Kind: c.Kind, Flags: c.Flags, Body: part[:n]})
		}
		refused(t, api.Chunk{Kind: c.Kind, Flags: 8, Body: part})
		if !bytes.Equal(whole, before) {
			t.Errorf("R3: the body of %v, or what lies behind it, changes when it is got", s.x)
		}
		for _, g := range getters() {
			x, e := g.get(c)
			if e != api.OK {
				continue
			}
			other, _ := g.get(c)
			scribble(other)
			if !same(x, s.x) || !bytes.Equal(whole, before) {
				t.Errorf("R3: %v, or its body, changes with another value", s.x)
			}
			fill(whole, 0xdd)
			if !same(x, s.x) {
				t.Errorf("R3: %v, once got, changes with the body", s.x)
			}
		}
	}
}

// What was called before changes no answer.
func TestAnswersStay(t *testing.T) {
	l := samples()
	for i, s := range l {
		c := checks(t, s.kind, s.x)
		other := l[len(l)-1-i]
		checks(t, other.kind, other.x)
		refused(t, api.Chunk{Kind: c.Kind, Flags: 16, Body: c.Body})
		gotAs(t, c, s.x)
		checks(t, s.kind, s.x)
	}
}

func TestNoBody(t *testing.T) {
	for kind := range 256 {
		for _, b := range [][]byte{nil, {}, row(40, 14)[:0]} {
			refused(t, api.Chunk{Kind: uint8(kind), Body: b})
			refused(t, api.Chunk{Kind: uint8(kind), Flags: 255, Body: b})
		}
	}
}
