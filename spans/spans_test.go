package spans_test

import (
	"math"
	"slices"
	"testing"

	"fairlead/api"
	"fairlead/spans"
)

// bases are before, at and after the wrap to 0 and the half, and others.
func bases() []uint32 {
	l := []uint32{4660, 51966, 0x55555555, 0xaaaaaaaa}
	for _, d := range []uint32{0, 1, 2, 3, 100, 4094, 4095, 4096, 4097, 4098} {
		l = append(l, d, -d, 1<<31+d, 1<<31-d)
	}
	return l
}

// with is a set of the numbers at those distances.
func with(t *testing.T, base uint32, distances ...uint32) *spans.Set {
	t.Helper()
	s := spans.New(base)
	for _, d := range distances {
		if !s.Add(base + d) {
			t.Fatalf("P4.2: base %d: the number %d beyond it is refused", base, d)
		}
	}
	return s
}

// upTo are the numbers from a to b.
func upTo(a, b uint32) []uint32 {
	var l []uint32
	for d := a; d <= b; d++ {
		l = append(l, d)
	}
	return l
}

// runs are gaps written as pairs.
func runs(ends ...uint16) []api.Gap {
	var l []api.Gap
	for i := 0; i+1 < len(ends); i += 2 {
		l = append(l, api.Gap{From: ends[i], To: ends[i+1]})
	}
	return l
}

// state is all that a set tells.
type state struct {
	base, last uint32
	count      int
	gaps       []api.Gap
}

func stateOf(s *spans.Set) state {
	return state{s.Base(), s.Last(), s.Count(), s.Gaps(math.MaxInt)}
}

func same(a, b state) bool {
	return a.base == b.base && a.last == b.last && a.count == b.count && slices.Equal(a.gaps, b.gaps)
}

// hold fails unless the set has that base, and as members just the numbers at those distances, which increase.
func hold(t *testing.T, what string, s *spans.Set, base uint32, distances ...uint32) {
	t.Helper()
	want := state{base: base, last: base, count: len(distances)}
	for i, d := range distances {
		want.last = base + d
		if i > 0 && distances[i-1] == d-1 {
			want.gaps[len(want.gaps)-1].To = uint16(d)
		} else {
			want.gaps = append(want.gaps, api.Gap{From: uint16(d), To: uint16(d)})
		}
	}
	if got := stateOf(s); !same(got, want) {
		t.Errorf("%s: %+v, not %+v", what, got, want)
	}
	next := 0
	for d := range uint32(api.Window + 3) {
		is := next < len(distances) && distances[next] == d
		if is {
			next++
		}
		if s.Has(base+d) != is {
			t.Errorf("P4.2: %s: the number %d beyond the base: %v, not %v", what, d, !is, is)
		}
	}
}

func TestExamples(t *testing.T) {
	s := spans.New(4294967294)
	add := func(x uint32, want bool) {
		t.Helper()
		if s.Add(x) != want {
			t.Errorf("P4.2: Add(%d): %v", x, !want)
		}
	}
	add(0, true)
	add(0, false)
	add(4294967294, false)
	add(4094, true)
	add(4095, false)
	if l := s.Gaps(9); !slices.Equal(l, runs(2, 2, 4096, 4096)) {
		t.Errorf("P4.6: Gaps(9): %v", l)
	}
	if l := s.Gaps(1); !slices.Equal(l, runs(2, 2)) {
		t.Errorf("P4.6: Gaps(1): %v", l)
	}
	if x := s.Last(); x != 4094 {
		t.Errorf("P4.3: Last: %d", x)
	}
	if n := s.Settle(); n != 0 {
		t.Errorf("P4.4: Settle: %d", n)
	}
	add(4294967295, true)
	if n := s.Settle(); n != 2 || s.Base() != 0 {
		t.Errorf("P4.4: Settle: %d, base %d", n, s.Base())
	}
	if n := s.Move(4000); n != 4000 || s.Count() != 1 {
		t.Errorf("P4.5: Move(4000): %d, count %d", n, s.Count())
	}
	if n := s.Move(4093); n != 94 || s.Base() != 4094 || s.Count() != 0 {
		t.Errorf("P4.5: Move(4093): %d, base %d, count %d", n, s.Base(), s.Count())
	}
}

func TestNew(t *testing.T) {
	for _, base := range bases() {
		hold(t, "P4.1: a new set", spans.New(base), base)
	}
}

func TestAddAtEachDistance(t *testing.T) {
	for _, base := range bases() {
		for _, x := range []struct {
			ahead uint32
			want  bool
		}{
			{0, false}, {1, true}, {2, true}, {255, true}, {256, true}, {2048, true}, {4094, true}, {4095, true}, {4096, true},
			{4097, false}, {4098, false}, {8192, false}, {65535, false}, {65536, false}, {65537, false}, {1<<16 + 4096, false},
			{1<<31 - 1, false}, {1 << 31, false}, {1<<31 + 1, false},
			{1<<32 - 4097, false}, {1<<32 - 4096, false}, {1<<32 - 4095, false}, {1<<32 - 2, false}, {1<<32 - 1, false},
		} {
			s := spans.New(base)
			if s.Has(base + x.ahead) {
				t.Errorf("P4.2: base %d: %d is in a set without numbers", base, base+x.ahead)
			}
			if got := s.Add(base + x.ahead); got != x.want {
				t.Errorf("P4.2: base %d, %d ahead of it: %v", base, x.ahead, got)
			}
			if s.Add(base + x.ahead) {
				t.Errorf("P4.2: base %d, %d ahead of it: added again", base, x.ahead)
			}
			if got := s.Has(base + x.ahead); got != x.want {
				t.Errorf("P4.2: base %d, %d ahead of it: Has says %v", base, x.ahead, got)
			}
			want := state{base: base, last: base}
			if x.want {
				want = state{base, base + x.ahead, 1, runs(uint16(x.ahead), uint16(x.ahead))}
			}
			if got := stateOf(s); !same(got, want) {
				t.Errorf("P4.2: base %d, %d ahead of it: %+v, not %+v", base, x.ahead, got, want)
			}
		}
	}
}

func TestAddDoesNotMoveTheBase(t *testing.T) {
	for _, base := range bases() {
		s := with(t, base, 2, 1, 3)
		hold(t, "P4.2: the first three numbers", s, base, 1, 2, 3)
		if !s.Add(base+4096) || s.Add(base+4097) {
			t.Errorf("P4.2: base %d: the window is not 4096 from the base", base)
		}
	}
}

func TestRefusedNumbersChangeNothing(t *testing.T) {
	for _, base := range bases() {
		s := with(t, base, 1, 5, 6, 4096)
		for _, ahead := range []uint32{0, 1, 5, 6, 4096, 4097, 1 << 31, 1<<32 - 1} {
			if s.Add(base + ahead) {
				t.Errorf("P4.2: base %d, %d ahead of it: not refused", base, ahead)
			}
		}
		hold(t, "P4.2: after refused numbers", s, base, 1, 5, 6, 4096)
	}
}

func TestCountAndLast(t *testing.T) {
	for _, base := range bases() {
		s := spans.New(base)
		for i, x := range []struct{ ahead, last uint32 }{{7, 7}, {3, 7}, {8, 8}, {4096, 4096}, {4095, 4096}, {1, 4096}} {
			s.Add(base + x.ahead)
			if s.Count() != i+1 || s.Last() != base+x.last {
				t.Errorf("P4.3: base %d, %d added: count %d, last %d", base, x.ahead, s.Count(), s.Last())
			}
		}
	}
}

func TestCountAndLastAfterRemovals(t *testing.T) {
	for _, base := range bases() {
		s := with(t, base, 1, 2, 3, 10, 11, 4096)
		s.Settle()
		if s.Count() != 3 || s.Last() != base+4096 {
			t.Errorf("P4.3: base %d, three settled: count %d, last %d", base, s.Count(), s.Last())
		}
		s.Move(base + 10)
		if s.Count() != 1 || s.Last() != base+4096 {
			t.Errorf("P4.3: base %d, two more removed: count %d, last %d", base, s.Count(), s.Last())
		}
		s.Move(base + 4096)
		if s.Count() != 0 || s.Last() != base+4096 || s.Last() != s.Base() {
			t.Errorf("P4.3: base %d, all removed: count %d, last %d", base, s.Count(), s.Last())
		}
		s.Move(base + 4099)
		if s.Count() != 0 || s.Last() != base+4099 {
			t.Errorf("P4.3: base %d, moved without members: count %d, last %d", base, s.Count(), s.Last())
		}
		s.Add(base + 4101)
		if s.Count() != 1 || s.Last() != base+4101 {
			t.Errorf("P4.3: base %d, one added again: count %d, last %d", base, s.Count(), s.Last())
		}
	}
}

func TestSettle(t *testing.T) {
	for _, base := range bases() {
		for _, x := range []struct {
			what     string
			has      []uint32
			advanced uint32
			left     []uint32
		}{
			{"none", nil, 0, nil},
			{"one that follows", []uint32{1}, 1, nil},
			{"one with a gap", []uint32{2}, 0, []uint32{2}},
			{"the furthest one", []uint32{4096}, 0, []uint32{4096}},
			{"three that follow", []uint32{3, 1, 2}, 3, nil},
			{"some that follow and some that do not", []uint32{1, 2, 4, 5, 4096}, 2, []uint32{2, 3, 4094}},
			{"two gaps", []uint32{1, 3, 5}, 1, []uint32{2, 4}},
			{"all but the first", upTo(2, 4096), 0, upTo(2, 4096)},
			{"all but the last", upTo(1, 4095), 4095, nil},
			{"all", upTo(1, 4096), 4096, nil},
		} {
			s := with(t, base, x.has...)
			if n := s.Settle(); n != int(x.advanced) {
				t.Errorf("P4.4: base %d, %s: %d, not %d", base, x.what, n, x.advanced)
			}
			hold(t, "P4.4: "+x.what, s, base+x.advanced, x.left...)
			if n := s.Settle(); n != 0 {
				t.Errorf("P4.4: base %d, %s: %d when settled already", base, x.what, n)
			}
			hold(t, "P4.4: settled twice: "+x.what, s, base+x.advanced, x.left...)
		}
	}
}

func TestMove(t *testing.T) {
	some := []uint32{3, 4, 5, 9, 10, 4096}
	for _, base := range bases() {
		for _, x := range []struct {
			what         string
			has          []uint32
			to, advanced uint32
			left         []uint32
		}{
			{"no members, by 1", nil, 1, 1, nil},
			{"no members, to the end of the window", nil, 4096, 4096, nil},
			{"a gap stays", some, 1, 1, []uint32{2, 3, 4, 8, 9, 4095}},
			{"a run follows", some, 2, 5, []uint32{4, 5, 4091}},
			{"to the first of a run", some, 3, 5, []uint32{4, 5, 4091}},
			{"into a run", some, 4, 5, []uint32{4, 5, 4091}},
			{"to the last of a run", some, 5, 5, []uint32{4, 5, 4091}},
			{"between two runs", some, 7, 7, []uint32{2, 3, 4089}},
			{"just before the second run", some, 8, 10, []uint32{4086}},
			{"beyond the second run", some, 11, 11, []uint32{4085}},
			{"just before the last member", some, 4095, 4096, nil},
			{"to the last member", some, 4096, 4096, nil},
			{"beyond the last member", []uint32{1, 2, 7}, 8, 8, nil},
			{"far beyond the last member", []uint32{1, 2, 7}, 4096, 4096, nil},
			{"to a member that follows the base", []uint32{1, 2, 4}, 1, 2, []uint32{2}},
			{"into all", upTo(1, 4096), 1, 4096, nil},
			{"before all", upTo(2, 4096), 1, 4096, nil},
			{"to the last of all", upTo(1, 4096), 4096, 4096, nil},
		} {
			s := with(t, base, x.has...)
			if n := s.Move(base + x.to); n != int(x.advanced) {
				t.Errorf("P4.5: base %d, %s: %d, not %d", base, x.what, n, x.advanced)
			}
			hold(t, "P4.5: "+x.what, s, base+x.advanced, x.left...)
		}
	}
}

func TestMoveOutsideTheWindow(t *testing.T) {
	for _, base := range bases() {
		for _, ahead := range []uint32{0, 4097, 4098, 65536, 65537, 1<<31 - 1, 1 << 31, 1<<31 + 1, 1<<32 - 4097, 1<<32 - 4096, 1<<32 - 1} {
			// The members that follow the base would settle if anything were done.
			s := with(t, base, 1, 2, 7, 4096)
			if n := s.Move(base + ahead); n != 0 {
				t.Errorf("P4.5: base %d, %d ahead of it: %d", base, ahead, n)
			}
			hold(t, "P4.5: outside the window", s, base, 1, 2, 7, 4096)
		}
	}
}

func TestWindowGoesWithTheBase(t *testing.T) {
	for _, base := range bases() {
		s := with(t, base, 1, 2, 4)
		s.Settle()
		for _, x := range []struct {
			ahead uint32
			want  bool
		}{{1, false}, {2, false}, {4098, true}, {4099, false}} {
			if s.Add(base+x.ahead) != x.want {
				t.Errorf("P4.2: base %d, two settled, %d ahead of the first base: %v", base, x.ahead, !x.want)
			}
		}
		if s.Move(base+4099) != 0 || s.Move(base+2) != 0 {
			t.Errorf("P4.5: base %d, two settled: moved out of the window", base)
		}
		if n := s.Move(base + 1000); n != 998 {
			t.Errorf("P4.5: base %d: %d, not 998", base, n)
		}
		for _, ahead := range []uint32{1, 2, 3, 4, 999, 1000, 5097} {
			if s.Add(base + ahead) {
				t.Errorf("P4.2: base %d, moved by 1000, %d ahead of the first base: added", base, ahead)
			}
		}
		if !s.Add(base + 5096) {
			t.Errorf("P4.2: base %d, moved by 1000: the end of the window is refused", base)
		}
		hold(t, "P4.5: after moves", s, base+1000, 3098, 4096)
	}
}

func TestGapsAtMost(t *testing.T) {
	all := runs(1, 2, 4, 4, 6, 9, 4095, 4096)
	for _, base := range bases() {
		s := with(t, base, 4096, 4, 9, 1, 7, 4095, 2, 8, 6)
		for _, x := range []struct{ most, want int }{
			{math.MinInt, 0}, {math.MinInt32, 0}, {-4, 0}, {-1, 0}, {0, 0}, {1, 1}, {2, 2}, {3, 3}, {4, 4}, {5, 4},
			{4096, 4}, {65536, 4}, {math.MaxInt32, 4}, {math.MaxInt, 4},
		} {
			if l := s.Gaps(x.most); !slices.Equal(l, all[:x.want]) {
				t.Errorf("P4.6: base %d, at most %d: %v, not %v", base, x.most, l, all[:x.want])
			}
		}
		hold(t, "P4.6: asking changes nothing", s, base, 1, 2, 4, 6, 7, 8, 9, 4095, 4096)
	}
}

func TestGaps(t *testing.T) {
	for _, base := range bases() {
		for _, x := range []struct {
			has  []uint32
			want []api.Gap
		}{
			{nil, nil},
			{[]uint32{1}, runs(1, 1)},
			{[]uint32{4096}, runs(4096, 4096)},
			{[]uint32{2, 1}, runs(1, 2)},
			{[]uint32{1, 3}, runs(1, 1, 3, 3)},
			{[]uint32{3, 1, 2}, runs(1, 3)},
			{[]uint32{4096, 1}, runs(1, 1, 4096, 4096)},
			{[]uint32{255, 256, 257, 259}, runs(255, 257, 259, 259)},
			{upTo(2, 4095), runs(2, 4095)},
			{upTo(1, 4096), runs(1, 4096)},
		} {
			s := with(t, base, x.has...)
			for _, most := range []int{len(x.want), len(x.want) + 1, 9, math.MaxInt} {
				if l := s.Gaps(most); !slices.Equal(l, x.want) {
					t.Errorf("P4.6: base %d, at most %d of %v: %v", base, most, x.want, l)
				}
			}
			if n := len(x.want); n > 0 {
				if l := s.Gaps(n - 1); !slices.Equal(l, x.want[:n-1]) {
					t.Errorf("P4.6: base %d, at most %d of %v: %v", base, n-1, x.want, l)
				}
			}
		}
	}
}

func TestGapsOfEveryOtherNumber(t *testing.T) {
	for _, base := range []uint32{0, 4294967295, 4294967295 - 2048, 1 << 31} {
		s := spans.New(base)
		var want []api.Gap
		for d := uint32(2); d <= 4096; d += 2 {
			s.Add(base + d)
			want = append(want, api.Gap{From: uint16(d), To: uint16(d)})
		}
		for _, most := range []int{0, 1, 2047, 2048, 2049} {
			if l := s.Gaps(most); !slices.Equal(l, want[:min(most, 2048)]) {
				t.Errorf("P4.6: base %d, at most %d: %d runs, or other ones", base, most, len(l))
			}
		}
	}
}

func TestGapsAreNewEachTime(t *testing.T) {
	s := with(t, 4294967294, 1, 2, 5)
	l := s.Gaps(9)
	for i := range l[:cap(l)] {
		l[:cap(l)][i] = api.Gap{From: 9, To: 8}
	}
	if again := s.Gaps(9); !slices.Equal(again, runs(1, 2, 5, 5)) {
		t.Errorf("R3: %v after the first answer was written over", again)
	}
	hold(t, "R3: the answer was written over", s, 4294967294, 1, 2, 5)
}

func TestNilSet(t *testing.T) {
	var s *spans.Set
	for _, x := range bases() {
		if s.Add(x) || s.Has(x) || s.Move(x) != 0 {
			t.Errorf("R4: a nil set takes %d", x)
		}
	}
	if s.Base() != 0 || s.Count() != 0 || s.Last() != 0 || s.Settle() != 0 {
		t.Errorf("R4: a nil set: base %d, count %d, last %d", s.Base(), s.Count(), s.Last())
	}
	for _, most := range []int{math.MinInt, -1, 0, 1, 9, math.MaxInt} {
		if l := s.Gaps(most); len(l) != 0 {
			t.Errorf("R4: a nil set has gaps: %v", l)
		}
	}
}

func TestSetsAreApart(t *testing.T) {
	a, b := spans.New(7), spans.New(7)
	a.Add(8)
	a.Add(10)
	hold(t, "R5: of two sets, the one that got nothing", b, 7)
	if !b.Add(10) || !b.Add(9) {
		t.Error("R5: of two sets, the second refuses what the first has")
	}
	a.Settle()
	a.Move(4000)
	hold(t, "R5: of two sets, the one that stayed", b, 7, 2, 3)
	hold(t, "R5: of two sets, the one that moved", a, 4000)
}

func TestOrderDoesNotMatter(t *testing.T) {
	var distances []uint32
	for d := uint32(1); d <= 4096; d++ {
		if d%5 != 0 && d%97 > 3 {
			distances = append(distances, d)
		}
	}
	// 3137 is a prime number: every step comes to each of so many distances.
	distances = distances[:3137]
	for _, base := range bases() {
		want := stateOf(with(t, base, distances...))
		for _, step := range []int{3136, 7, 1237, 1569} {
			s := spans.New(base)
			for i := range distances {
				if d := distances[i*step%3137]; !s.Add(base + d) {
					t.Fatalf("consequence 1: base %d, step %d: %d is refused", base, step, d)
				}
			}
			for _, d := range distances {
				if s.Add(base + d) {
					t.Fatalf("consequence 1: base %d, step %d: %d is accepted twice", base, step, d)
				}
			}
			if got := stateOf(s); !same(got, want) {
				t.Errorf("consequence 1: base %d, step %d: another set", base, step)
			}
		}
	}
}

// model is a set that is kept another way: as one bool for each distance.
type model struct {
	base uint32
	in   [api.Window + 1]bool
}

func (m *model) add(x uint32) bool {
	d := x - m.base
	if d < 1 || d > api.Window || m.in[d] {
		return false
	}
	m.in[d] = true
	return true
}

func (m *model) advance(n int) {
	var in [api.Window + 1]bool
	copy(in[1:], m.in[n+1:])
	m.in = in
	m.base += uint32(n)
}

func (m *model) settle() int {
	n := 0
	for n < api.Window && m.in[n+1] {
		n++
	}
	m.advance(n)
	return n
}

func (m *model) move(to uint32) int {
	d := to - m.base
	if d < 1 || d > api.Window {
		return 0
	}
	m.advance(int(d))
	return int(d) + m.settle()
}

func (m *model) distances() []uint32 {
	var l []uint32
	for d, in := range m.in {
		if in {
			l = append(l, uint32(d))
		}
	}
	return l
}

// dice gives numbers that look thrown, the same ones in each run.
type dice uint64

func (d *dice) below(n uint32) uint32 {
	*d = *d*6364136223846793005 + 1442695040888963407
	return uint32(uint64(*d)>>33) % n
}

// answer is what a step answers.
type answer struct {
	ok bool
	n  int
}

func TestManySteps(t *testing.T) {
	for i, base := range bases() {
		d := dice(i)
		s, m := spans.New(base), &model{base: base}
		for step := range 300 {
			near := m.base + d.below(12)
			far := m.base - 3 + d.below(4104)
			var got, want answer
			switch k := d.below(20); {
			case k < 10:
				got.ok, want.ok = s.Add(near), m.add(near)
			case k < 16:
				got.ok, want.ok = s.Add(far), m.add(far)
			case k < 18:
				got.n, want.n = s.Settle(), m.settle()
			case k < 19:
				got.n, want.n = s.Move(near), m.move(near)
			case d.below(8) == 0:
				got.n, want.n = s.Move(far), m.move(far)
			}
			if got != want {
				t.Fatalf("P4.2, P4.4, P4.5: base %d, step %d: %v, not %v", base, step, got, want)
			}
			if step%30 == 0 {
				hold(t, "P4.2 to P4.6: many steps", s, m.base, m.distances()...)
			}
		}
	}
}

func TestAddingToAllChangesNothing(t *testing.T) {
	for _, base := range bases() {
		a, b := spans.New(1000), spans.New(1000+base)
		d := dice(7)
		for step := range 300 {
			x := 1000 + uint32(step) + d.below(60)
			y := x + base
			switch d.below(6) {
			case 0:
				if a.Move(x) != b.Move(y) {
					t.Fatalf("consequence 1: %d added to all: another advance by Move", base)
				}
			case 1:
				if a.Settle() != b.Settle() {
					t.Fatalf("consequence 1: %d added to all: another advance by Settle", base)
				}
			default:
				if a.Add(x) != b.Add(y) || !a.Has(x) && x-a.Base() >= 1 && x-a.Base() <= api.Window {
					t.Fatalf("consequence 1: %d added to all: another answer to Add", base)
				}
			}
			of, off := stateOf(a), stateOf(b)
			of.base, of.last = of.base+base, of.last+base
			if !same(of, off) {
				t.Fatalf("consequence 1: %d added to all: %+v and %+v", base, of, off)
			}
		}
	}
}

func TestNoMemberFollowsASettledBase(t *testing.T) {
	for i, base := range bases() {
		d := dice(i + 50)
		s := spans.New(base)
		for range 200 {
			s.Add(s.Base() + 1 + d.below(9))
			if d.below(3) == 0 {
				before := s.Base()
				if n := s.Settle(); s.Base() != before+uint32(n) || s.Has(s.Base()+1) || s.Has(s.Base()) {
					t.Fatalf("consequence 2: base %d: %d settled, and the next one is in", base, n)
				}
			}
			if d.below(9) == 0 {
				before := s.Base()
				if n := s.Move(before + 1 + d.below(5)); s.Base() != before+uint32(n) || s.Has(s.Base()+1) {
					t.Fatalf("consequence 2: base %d: moved by %d, and the next one is in", base, n)
				}
			}
		}
	}
}

func TestAnswersStay(t *testing.T) {
	first := stateOf(with(t, 4294967290, 9, 2, 4096, 3, 1000))
	for range 50 {
		if again := stateOf(with(t, 4294967290, 9, 2, 4096, 3, 1000)); !same(first, again) {
			t.Fatalf("R5: %+v, and later %+v", first, again)
		}
	}
}
