package ring_test

import (
	"math"
	"strconv"
	"testing"

	"fairlead/api"
	"fairlead/ring"
)

// pair is a struct as an element.
type pair struct {
	name string
	n    int
}

// capacities are the least ones, those around powers of 2, and others.
func capacities() []int {
	return []int{1, 2, 3, 4, 5, 6, 7, 8, 9, 15, 16, 17, 31, 33, 100, 255, 256, 257}
}

// upTo are the numbers from a to b.
func upTo(a, b int) []int {
	var l []int
	for x := a; x <= b; x++ {
		l = append(l, x)
	}
	return l
}

// empty is a new ring.
func empty[T any](t *testing.T, most int) *ring.Ring[T] {
	t.Helper()
	r, e := ring.New[T](most)
	if r == nil || e != api.OK {
		t.Fatalf("P5.1: New(%d): %d", most, e)
	}
	return r
}

// with is a new ring of those elements.
func with[T any](t *testing.T, most int, elements ...T) *ring.Ring[T] {
	t.Helper()
	r := empty[T](t, most)
	push(t, r, elements...)
	return r
}

// push fails unless the ring takes all those elements.
func push[T any](t *testing.T, r *ring.Ring[T], elements ...T) {
	t.Helper()
	for _, x := range elements {
		if !r.Push(x) {
			t.Fatalf("P5.2: %v is refused with room for %d", x, r.Room())
		}
	}
}

// pop fails unless the ring gives out those elements.
func pop[T comparable](t *testing.T, r *ring.Ring[T], elements ...T) {
	t.Helper()
	for _, want := range elements {
		if x, ok := r.Pop(); x != want || !ok {
			t.Fatalf("P5.2: Pop: %v, %v, not %v", x, ok, want)
		}
	}
}

// none fails unless there is no element at index i.
func none[T comparable](t *testing.T, what string, r *ring.Ring[T], i int) {
	t.Helper()
	var zero T
	if x, ok := r.At(i); x != zero || ok {
		t.Errorf("P5.3: %s: At(%d): %v, %v", what, i, x, ok)
	}
}

// hold fails unless the ring has that capacity and just those elements, in their order.
func hold[T comparable](t *testing.T, what string, r *ring.Ring[T], most int, elements ...T) {
	t.Helper()
	n := len(elements)
	// Asked twice, since asking may not change anything.
	for range 2 {
		if r.Len() != n || r.Room() != most-n {
			t.Errorf("P5.1: %s: %d elements and room for %d, not %d and %d", what, r.Len(), r.Room(), n, most-n)
		}
		for _, i := range []int{math.MinInt, math.MinInt + 1, math.MinInt32, -1 << 20, -most - 1, -most, -n - 1, -n, -2, -1} {
			if i < 0 {
				none(t, what, r, i)
			}
		}
		for _, i := range []int{n, n + 1, most, most + 1, most + n, 1 << 20, 1<<20 + 1, math.MaxInt32, 1 << 32, math.MaxInt - 1, math.MaxInt} {
			if i >= n {
				none(t, what, r, i)
			}
		}
		for i, want := range elements {
			if x, ok := r.At(i); x != want || !ok {
				t.Errorf("P5.3: %s: At(%d): %v, %v, not %v", what, i, x, ok, want)
			}
		}
	}
}

// drained fails unless the ring gives out no element, again and again.
func drained[T comparable](t *testing.T, what string, r *ring.Ring[T], most int) {
	t.Helper()
	var zero T
	for range 3 {
		if x, ok := r.Pop(); x != zero || ok {
			t.Errorf("P5.2: %s: Pop of an empty ring: %v, %v", what, x, ok)
		}
	}
	hold(t, what, r, most)
}

// full fails unless the ring refuses the element, again and again.
func full[T comparable](t *testing.T, r *ring.Ring[T], x T) {
	t.Helper()
	for range 3 {
		if r.Push(x) {
			t.Errorf("P5.2: a full ring takes %v", x)
		}
	}
}

func TestExamples(t *testing.T) {
	for _, most := range []int{0, 1<<20 + 1} {
		if r, e := ring.New[string](most); r != nil || e != api.ErrArg {
			t.Errorf("P5.1: New(%d): %d", most, e)
		}
	}
	r := empty[string](t, 2)
	if !r.Push("a") || !r.Push("b") || r.Push("c") {
		t.Error("P5.2: of a, b and c, not just the first two are taken")
	}
	if x, ok := r.At(1); x != "b" || !ok {
		t.Errorf("P5.3: At(1): %q, %v", x, ok)
	}
	if x, ok := r.At(2); x != "" || ok {
		t.Errorf("P5.3: At(2): %q, %v", x, ok)
	}
	if x, ok := r.Pop(); x != "a" || !ok || r.Room() != 1 {
		t.Errorf("P5.2: Pop: %q, %v, room for %d", x, ok, r.Room())
	}
	if !r.Push("c") {
		t.Error("P5.2: c is refused")
	}
	for _, want := range []string{"b", "c", ""} {
		if x, ok := r.Pop(); x != want || ok != (want != "") {
			t.Errorf("P5.2: Pop: %q, %v, not %q", x, ok, want)
		}
	}
}

func TestNewOutOfBounds(t *testing.T) {
	for _, most := range []int{math.MinInt, math.MinInt + 1, math.MinInt32, -1 << 20, -2, -1, 0, 1<<20 + 1, 1<<20 + 2, 1 << 21, math.MaxInt32, 1 << 32, 1<<32 + 1, math.MaxInt - 1, math.MaxInt} {
		if r, e := ring.New[int](most); r != nil || e != api.ErrArg {
			t.Errorf("P5.1: New(%d) of ints: %v, %d", most, r, e)
		}
		if r, e := ring.New[pair](most); r != nil || e != api.ErrArg {
			t.Errorf("P5.1: New(%d) of structs: %v, %d", most, r, e)
		}
		if r, e := ring.New[*int](most); r != nil || e != api.ErrArg {
			t.Errorf("P5.1: New(%d) of pointers: %v, %d", most, r, e)
		}
	}
}

func TestNew(t *testing.T) {
	for _, most := range append(capacities(), 4096, 65535, 65536, 1<<20-1, 1<<20) {
		hold(t, "a new ring of ints", empty[int](t, most), most)
		hold(t, "a new ring of texts", empty[string](t, most), most)
		drained(t, "a new ring of structs", empty[pair](t, most), most)
		drained(t, "a new ring of pointers", empty[*int](t, most), most)
	}
}

func TestLenAndRoom(t *testing.T) {
	for _, most := range capacities() {
		r := empty[int](t, most)
		for n := 1; n <= most; n++ {
			push(t, r, n)
			if r.Len() != n || r.Room() != most-n {
				t.Fatalf("P5.1: capacity %d, %d pushed: %d elements and room for %d", most, n, r.Len(), r.Room())
			}
		}
		for n := most - 1; n >= 0; n-- {
			pop(t, r, most-n)
			if r.Len() != n || r.Room() != most-n {
				t.Fatalf("P5.1: capacity %d, all but %d popped: %d elements and room for %d", most, n, r.Len(), r.Room())
			}
		}
	}
}

// useOf uses rings of as many elements as there are, which are to differ from more.
func useOf[T comparable](t *testing.T, more T, elements ...T) {
	most := len(elements)
	r := empty[T](t, most)
	drained(t, "new", r, most)
	for i, x := range elements {
		push(t, r, x)
		hold(t, "filled", r, most, elements[:i+1]...)
	}
	full(t, r, more)
	hold(t, "full", r, most, elements...)
	for i, x := range elements {
		pop(t, r, x)
		hold(t, "popped", r, most, elements[i+1:]...)
	}
	drained(t, "emptied", r, most)
	push(t, r, more)
	push(t, r, elements[1:]...)
	pop(t, r, more)
	hold(t, "filled again", r, most, elements[1:]...)
	r.Clear()
	drained(t, "cleared", r, most)
	push(t, r, elements...)
	full(t, r, more)
	hold(t, "filled once more", r, most, elements...)
}

// The zero value is an element like any other, and so is one that is there twice.
func TestElementsOfManyTypes(t *testing.T) {
	a, b, c := 7, 7, 8
	t.Run("ints", func(t *testing.T) { useOf(t, 99, 5, 0, -1, 5, math.MinInt, math.MaxInt, 0) })
	t.Run("texts", func(t *testing.T) { useOf(t, "more", "one", "", "two", "one", "\x00", "") })
	t.Run("structs", func(t *testing.T) { useOf(t, pair{"more", 9}, pair{"a", 1}, pair{}, pair{"a", 2}, pair{"a", 1}) })
	t.Run("pointers", func(t *testing.T) { useOf(t, &c, &a, nil, &b, &a) })
	t.Run("bools", func(t *testing.T) { useOf(t, true, false, true, true, false, false) })
	t.Run("bytes", func(t *testing.T) { useOf[uint8](t, 255, 0, 1, 254, 0) })
	t.Run("arrays", func(t *testing.T) { useOf(t, [2]int{9, 9}, [2]int{1, 2}, [2]int{}, [2]int{2, 1}) })
	t.Run("structs of nothing", func(t *testing.T) { useOf(t, struct{}{}, struct{}{}, struct{}{}) })
	t.Run("errors' numbers", func(t *testing.T) { useOf(t, api.ErrFull, api.OK, api.ErrArg) })
	t.Run("any types", func(t *testing.T) { useOf[any](t, 9, "a", nil, 1, pair{"b", 2}) })
}

// An element of a type that cannot be compared is one too.
func TestElementsThatAreSlices(t *testing.T) {
	r := with(t, 2, []byte("ab"), []byte(nil))
	if r.Push([]byte("c")) {
		t.Error("P5.2: a full ring takes a third slice")
	}
	if x, ok := r.At(0); string(x) != "ab" || !ok {
		t.Errorf("P5.3: At(0): %q, %v", x, ok)
	}
	for _, want := range []string{"ab", ""} {
		if x, ok := r.Pop(); string(x) != want || !ok {
			t.Errorf("P5.2: Pop: %q, %v, not %q", x, ok, want)
		}
	}
	if x, ok := r.Pop(); x != nil || ok {
		t.Errorf("P5.2: Pop of an emptied ring: %q, %v", x, ok)
	}
}

// What a pointer points to is passed on as it is.
func TestPointersStay(t *testing.T) {
	x, y := &pair{"x", 1}, &pair{"x", 1}
	r := with(t, 2, x, y)
	x.n = 5
	if p, _ := r.At(0); p != x || p.n != 5 {
		t.Errorf("P5.3: At(0): another pointer")
	}
	pop(t, r, x, y)
	if *x != (pair{"x", 5}) || *y != (pair{"x", 1}) {
		t.Errorf("R3: what the pointers point to was changed: %v, %v", *x, *y)
	}
}

func TestPushIntoAFullRing(t *testing.T) {
	for _, most := range capacities() {
		r := with(t, most, upTo(1, most)...)
		full(t, r, 1000)
		hold(t, "full", r, most, upTo(1, most)...)
	}
}

func TestPushBehindAPop(t *testing.T) {
	for _, most := range capacities() {
		r := with(t, most, upTo(1, most)...)
		for n := 1; n <= 2*most+1; n++ {
			pop(t, r, n)
			push(t, r, most+n)
			full(t, r, 1000)
			if n < 20 || n > 2*most-2 {
				hold(t, "full again", r, most, upTo(n+1, most+n)...)
			}
		}
	}
}

func TestPushBehindAClear(t *testing.T) {
	for _, most := range capacities() {
		r := with(t, most, upTo(1, most)...)
		full(t, r, 1000)
		r.Clear()
		for n := 1; n <= most; n++ {
			push(t, r, -n)
		}
		full(t, r, 1000)
		for n := 1; n <= most; n++ {
			pop(t, r, -n)
		}
		drained(t, "emptied", r, most)
	}
}

func TestPopOfAnEmptyRing(t *testing.T) {
	for _, most := range capacities() {
		r := empty[int](t, most)
		drained(t, "new", r, most)
		for n := 1; n <= most; n++ {
			push(t, r, upTo(1, n)...)
			pop(t, r, upTo(1, n)...)
			drained(t, "emptied", r, most)
		}
	}
}

func TestAtFromEachStart(t *testing.T) {
	for _, most := range []int{1, 2, 3, 4, 5, 8, 9} {
		for gone := range 2*most + 1 {
			for n := range most + 1 {
				r := empty[int](t, most)
				for i := range gone {
					push(t, r, -i)
					pop(t, r, -i)
				}
				push(t, r, upTo(1, n)...)
				hold(t, strconv.Itoa(gone)+" gone", r, most, upTo(1, n)...)
				pop(t, r, upTo(1, n)...)
			}
		}
	}
}

// The memory for elements grows while the first of them is anywhere in it.
func TestGrowthFromEachStart(t *testing.T) {
	for _, before := range []int{1, 2, 3, 4, 5, 7, 8, 9, 16} {
		for gone := range before + 1 {
			r := with(t, 40, upTo(1, before)...)
			pop(t, r, upTo(1, gone)...)
			push(t, r, upTo(before+1, gone+40)...)
			full(t, r, 1000)
			hold(t, strconv.Itoa(gone)+" of "+strconv.Itoa(before)+" gone", r, 40, upTo(gone+1, gone+40)...)
			pop(t, r, upTo(gone+1, gone+40)...)
			drained(t, "emptied", r, 40)
		}
	}
}

func TestClear(t *testing.T) {
	for _, most := range capacities() {
		for _, gone := range []int{0, 1, most / 2, most} {
			for _, n := range []int{0, 1, most / 2, most - 1, most} {
				r := with(t, most, upTo(1, gone)...)
				pop(t, r, upTo(1, gone)...)
				push(t, r, upTo(1, n)...)
				r.Clear()
				hold(t, "cleared", r, most)
				drained(t, "cleared", r, most)
				r.Clear()
				hold(t, "cleared twice", r, most)
				push(t, r, upTo(50, 49+most)...)
				full(t, r, 1000)
				hold(t, "filled behind Clear", r, most, upTo(50, 49+most)...)
			}
		}
	}
}

// dice gives numbers that look thrown, the same ones in each run.
type dice uint64

func (d *dice) below(n int) int {
	*d = *d*6364136223846793005 + 1442695040888963407
	return int(uint64(*d)>>33) % n
}

// list is a ring that is kept another way: as a plain list.
type list struct {
	most     int
	elements []int
}

func (l *list) push(x int) bool {
	if len(l.elements) == l.most {
		return false
	}
	l.elements = append(l.elements, x)
	return true
}

func (l *list) pop() (int, bool) {
	if len(l.elements) == 0 {
		return 0, false
	}
	x := l.elements[0]
	l.elements = l.elements[1:]
	return x, true
}

// turn does one thing to a ring and to a list, and fails if they answer differently.
func turn(t *testing.T, r *ring.Ring[int], l *list, pushes bool, x int) {
	t.Helper()
	if pushes {
		if got, want := r.Push(x), l.push(x); got != want {
			t.Fatalf("P5.2: capacity %d, %d elements: Push: %v", l.most, len(l.elements), got)
		}
		return
	}
	got, ok := r.Pop()
	if want, is := l.pop(); got != want || ok != is {
		t.Fatalf("P5.2: capacity %d: Pop: %d, %v, not %d, %v", l.most, got, ok, want, is)
	}
}

func TestManyTurns(t *testing.T) {
	for i, most := range append(capacities(), 1000, 1<<20) {
		d := dice(i)
		r, l := empty[int](t, most), &list{most: most}
		// Pushes prevail for a while, and then pops, so that the ring is full and empty in turns.
		for step := range 6000 {
			pushes := d.below(10) < 7
			if step/500%2 == 1 {
				pushes = !pushes
			}
			turn(t, r, l, pushes, step+1)
			if d.below(700) == 0 {
				r.Clear()
				l.elements = nil
			}
			if step%97 == 0 {
				hold(t, "many turns", r, most, l.elements...)
			}
		}
	}
}

func TestRowsOfPushesAndPops(t *testing.T) {
	for _, most := range capacities() {
		r, l := empty[int](t, most), &list{most: most}
		x := 0
		for pushed := range most + 2 {
			for popped := range 4 {
				for range pushed {
					x++
					turn(t, r, l, true, x)
				}
				for range popped {
					turn(t, r, l, false, 0)
				}
			}
			hold(t, "rows", r, most, l.elements...)
		}
	}
}

func TestGreatestRing(t *testing.T) {
	const most = 1 << 20
	r := empty[int](t, most)
	for x := range most {
		if !r.Push(x) {
			t.Fatalf("P5.2: element %d is refused", x)
		}
	}
	full(t, r, -1)
	if r.Len() != most || r.Room() != 0 {
		t.Errorf("P5.1: %d elements and room for %d", r.Len(), r.Room())
	}
	for x := range most / 2 {
		pop(t, r, x)
		push(t, r, most+x)
	}
	full(t, r, -1)
	for _, i := range []int{0, 1, most / 2, most - 2, most - 1} {
		if x, ok := r.At(i); x != most/2+i || !ok {
			t.Errorf("P5.3: At(%d): %d, %v", i, x, ok)
		}
	}
	none(t, "full", r, most)
	for x := range most / 2 {
		pop(t, r, most/2+x)
	}
	if r.Len() != most/2 || r.Room() != most/2 {
		t.Errorf("P5.1: %d elements and room for %d", r.Len(), r.Room())
	}
	r.Clear()
	drained(t, "cleared", r, most)
}

func TestEachIsPoppedOnce(t *testing.T) {
	for i, most := range capacities() {
		d := dice(i + 50)
		r := empty[int](t, most)
		pushed, popped := 0, 0
		for range 3000 {
			if d.below(2) == 0 {
				if r.Push(pushed) {
					pushed++
				}
			} else if x, ok := r.Pop(); ok {
				if x != popped {
					t.Fatalf("consequence: capacity %d: %d is popped, not %d", most, x, popped)
				}
				popped++
			}
		}
		pop(t, r, upTo(popped, pushed-1)...)
		drained(t, "each was popped", r, most)
	}
}

func TestRingsAreApart(t *testing.T) {
	a, b, c := empty[int](t, 3), empty[int](t, 3), empty[string](t, 2)
	push(t, a, 1, 2, 3)
	hold(t, "of three rings, the second", b, 3)
	hold(t, "of three rings, the third", c, 2)
	push(t, b, 11)
	push(t, c, "x", "y")
	full(t, a, 4)
	pop(t, a, 1)
	hold(t, "of three rings, the second, behind a Pop of the first", b, 3, 11)
	push(t, b, 12, 13)
	full(t, b, 14)
	a.Clear()
	hold(t, "of three rings, the second, behind a Clear of the first", b, 3, 11, 12, 13)
	hold(t, "of three rings, the third, behind a Clear of the first", c, 2, "x", "y")
	pop(t, b, 11, 12, 13)
	drained(t, "of three rings, the second", b, 3)
	push(t, a, 5)
	hold(t, "of three rings, the first", a, 3, 5)
	pop(t, c, "x", "y")
}

func TestRingsInTurns(t *testing.T) {
	d := dice(3)
	a, b := empty[int](t, 5), empty[int](t, 5)
	ofA, ofB := &list{most: 5}, &list{most: 5}
	for step := range 3000 {
		turn(t, a, ofA, d.below(2) == 0, step)
		turn(t, b, ofB, d.below(2) == 0, -step)
		hold(t, "the first of two rings", a, 5, ofA.elements...)
		hold(t, "the second of two rings", b, 5, ofB.elements...)
	}
}

// nilOf makes every call on a nil ring.
func nilOf[T comparable](t *testing.T, elements ...T) {
	var r *ring.Ring[T]
	for range 2 {
		full(t, r, elements[0])
		for _, x := range elements {
			if r.Push(x) {
				t.Errorf("P5.4: a nil ring takes %v", x)
			}
		}
		drained(t, "P5.4: a nil ring", r, 0)
		r.Clear()
		hold(t, "P5.4: a nil ring that was cleared", r, 0)
	}
}

func TestNilRing(t *testing.T) {
	n := 7
	t.Run("ints", func(t *testing.T) { nilOf(t, 1, 0) })
	t.Run("texts", func(t *testing.T) { nilOf(t, "a", "") })
	t.Run("structs", func(t *testing.T) { nilOf(t, pair{"a", 1}, pair{}) })
	t.Run("pointers", func(t *testing.T) { nilOf(t, &n, nil) })
}

func TestAnswersStay(t *testing.T) {
	answers := func() string {
		r := with(t, 3, "a", "b", "c")
		r.Pop()
		r.Push("d")
		r.Push("e")
		s := strconv.Itoa(r.Len()) + strconv.Itoa(r.Room())
		for range 4 {
			x, ok := r.Pop()
			s += x + strconv.FormatBool(ok)
		}
		return s
	}
	first := answers()
	for range 50 {
		if again := answers(); again != first {
			t.Fatalf("R5: %s, and later %s", first, again)
		}
	}
}
