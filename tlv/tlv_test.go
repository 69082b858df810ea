package tlv

import (
	"math"
	"slices"
	"testing"

	"gunwale/api"
)

// The faults of the shapes under test.
const (
	bad = api.FeatLen
	odd = api.FeatArg
)

// padded and stepped are shapes with the same numbers, the one with zeros behind things, the other without.
var (
	padded  = Shape{Least: 4, Step: 8, Pad: true, Bad: bad, Odd: odd}
	stepped = Shape{Least: 8, Step: 8, Bad: bad, Odd: odd}
)

// count is the bytes 1, 2, .. of that length.
func count(n int) []byte {
	b := make([]byte, n)
	for i := range b {
		b[i] = byte(i + 1)
	}
	return b
}

// head is a thing's type and length.
func head(kind, length int) []byte {
	return []byte{byte(kind >> 8), byte(kind), byte(length >> 8), byte(length)}
}

// plain is a thing's bytes, told as plainly as can be, with so many zeros.
func plain(x Item, zeros int) []byte {
	return slices.Concat(head(x.Type, 4+len(x.Body)), x.Body, make([]byte, zeros))
}

func sameItem(x, y Item) bool { return x.Type == y.Type && slices.Equal(x.Body, y.Body) }

func sameItems(a, b []Item) bool { return slices.EqualFunc(a, b, sameItem) }

// first asks One for a thing.
func first(t *testing.T, s Shape, b []byte, want Item, size int) {
	t.Helper()
	if x, n, e := One(s, b); e != api.OK || n != size || !sameItem(x, want) {
		t.Errorf("One by %v of %v: %v, %d, %d; not %v, %d", s, b, x, n, e, want, size)
	}
}

// refused asks One and Cut for an error, and nothing beside it.
func refused(t *testing.T, s Shape, b []byte, want api.Errno) {
	t.Helper()
	if x, n, e := One(s, b); e != want || n != 0 || x.Type != 0 || x.Body != nil {
		t.Errorf("One by %v of %v: %v, %d, %d; not %d", s, b, x, n, e, want)
	}
	if len(b) == 0 && want != api.ErrArg {
		return
	}
	if l, e := Cut(s, b); e != want || l != nil {
		t.Errorf("Cut by %v of %v: %v, %d; not %d", s, b, l, e, want)
	}
}

// notJoined asks Join for ErrArg, and nothing beside it.
func notJoined(t *testing.T, s Shape, l ...Item) {
	t.Helper()
	if b, e := Join(s, l...); e != api.ErrArg || b != nil {
		t.Errorf("Join by %v of %d things: %d bytes, %d", s, len(l), len(b), e)
	}
}

// The chapter's example.
func TestExample(t *testing.T) {
	b := []byte{0, 1, 0, 6, 9, 9, 0, 0}
	x := Item{1, []byte{9, 9}}
	first(t, padded, b, x, 8)
	if l, e := Cut(padded, b); e != api.OK || !sameItems(l, []Item{x}) {
		t.Errorf("Cut: %v, %d", l, e)
	}
	if got, e := Join(padded, x); e != api.OK || !slices.Equal(got, b) {
		t.Errorf("Join: %v, %d", got, e)
	}
}

// TL1, TL2, TL3: the edges of shapes that may be.
func TestShapes(t *testing.T) {
	for _, pad := range []bool{false, true} {
		for _, e := range []api.Errno{bad, odd, api.ErrArg, -1, math.MaxInt, math.MinInt} {
			for _, least := range []int{4, 5, 8, 60000} {
				for _, step := range []int{1, 2, 63, 64} {
					s := Shape{least, step, pad, e, odd}
					mayBe(t, s, e)
					s = Shape{least, step, pad, bad, e}
					mayBe(t, s, bad)
				}
			}
		}
	}
}

func mayBe(t *testing.T, s Shape, bad api.Errno) {
	t.Helper()
	refused(t, s, []byte{0}, bad)
	if l, e := Cut(s, nil); e != api.OK || len(l) != 0 {
		t.Errorf("Cut by %v of nothing: %v, %d", s, l, e)
	}
	if b, e := Join(s); e != api.OK || len(b) != 0 {
		t.Errorf("Join by %v of nothing: %v, %d", s, b, e)
	}
}

// TL1, TL2, TL3: by a shape that may not be nothing is told, whatever the bytes and the things are.
func TestNoShapes(t *testing.T) {
	for _, s := range []Shape{
		{},
		{Least: 3, Step: 8, Bad: bad, Odd: odd},
		{Least: 0, Step: 8, Bad: bad, Odd: odd},
		{Least: -4, Step: 8, Bad: bad, Odd: odd},
		{Least: math.MinInt, Step: 8, Bad: bad, Odd: odd},
		{Least: 60001, Step: 1, Bad: bad, Odd: odd},
		{Least: 65536, Step: 1, Bad: bad, Odd: odd},
		{Least: math.MaxInt, Step: 1, Bad: bad, Odd: odd},
		{Least: 4, Step: 0, Bad: bad, Odd: odd},
		{Least: 4, Step: -1, Bad: bad, Odd: odd},
		{Least: 4, Step: -8, Bad: bad, Odd: odd},
		{Least: 4, Step: math.MinInt, Bad: bad, Odd: odd},
		{Least: 4, Step: 65, Bad: bad, Odd: odd},
		{Least: 4, Step: math.MaxInt, Bad: bad, Odd: odd},
		{Least: 4, Step: 8, Bad: api.OK, Odd: odd},
		{Least: 4, Step: 8, Bad: bad, Odd: api.OK},
		{Least: 4, Step: 8},
	} {
		for _, pad := range []bool{false, true} {
			s.Pad = pad
			for _, b := range [][]byte{nil, {}, {0}, {0, 1, 0, 6, 9, 9, 0, 0}, {0, 1, 0, 8, 9, 9, 9, 9}, {0, 1, 0, 6, 9, 9, 0, 9}} {
				refused(t, s, b, api.ErrArg)
			}
			notJoined(t, s)
			notJoined(t, s, Item{1, count(4)})
			notJoined(t, s, Item{-1, count(4)})
		}
	}
}

// TL1: fewer than 4 bytes are no thing, whatever they are.
func TestOneOfFewBytes(t *testing.T) {
	for _, s := range []Shape{padded, stepped, {4, 1, false, bad, odd}, {60000, 64, true, bad, odd}} {
		for n := range 4 {
			refused(t, s, make([]byte, n), bad)
			refused(t, s, slices.Repeat([]byte{255}, n), bad)
		}
		refused(t, s, nil, bad)
	}
}

// TL1: no length is less than Least, at each of a run of leasts; just as much will do.
func TestOneLeast(t *testing.T) {
	for _, pad := range []bool{false, true} {
		for _, least := range []int{4, 5, 7, 8, 9, 255, 256, 257, 1000, 60000} {
			s := Shape{least, 1, pad, bad, odd}
			for _, length := range []int{0, 1, 3, 4, 5, 8, 9, 255, 256, 257, least - 1, least, least + 1, 60001, 65535} {
				b := append(head(7, length), count(65600)...)
				if length < least {
					refused(t, s, b, bad)
					continue
				}
				first(t, s, b, Item{7, count(length - 4)}, length)
			}
		}
	}
}

// TL1: without Pad each length is a multiple of Step, at each step that may be.
func TestOneStep(t *testing.T) {
	for step := 1; step <= 64; step++ {
		s := Shape{4, step, false, bad, odd}
		for length := 4; length <= 200; length++ {
			b := append(head(258, length), count(300)...)
			if length%step != 0 {
				refused(t, s, b, bad)
				continue
			}
			first(t, s, b, Item{258, count(length - 4)}, length)
			first(t, s, b[:length], Item{258, count(length - 4)}, length)
			refused(t, s, b[:length-1], bad)
		}
	}
}

// TL1: without Pad Least need be no multiple of Step.
func TestOneLeastBesideStep(t *testing.T) {
	s := Shape{5, 8, false, bad, odd}
	refused(t, s, append(head(1, 5), 9), bad)
	first(t, s, append(head(1, 8), count(9)...), Item{1, count(4)}, 8)
	notJoined(t, s, Item{1, count(1)})
}

// TL1: with Pad there are as many zeros as it takes to a multiple of each step that may be, and all are asked.
func TestOnePad(t *testing.T) {
	for step := 1; step <= 64; step++ {
		s := Shape{4, step, true, bad, odd}
		for length := 4; length <= 140; length++ {
			x := Item{65535, count(length - 4)}
			size := (length + step - 1) / step * step
			b := plain(x, size-length)
			first(t, s, b, x, size)
			first(t, s, append(slices.Clone(b), 1, 2, 3), x, size)
			for n := max(4, length-2); n < size; n++ {
				refused(t, s, b[:n], bad)
			}
			for at := length; at < size; at++ {
				wrong := slices.Clone(b)
				wrong[at] = 1 << (at % 8)
				refused(t, s, wrong, odd)
				refused(t, s, append(wrong, 0), odd)
				// All bytes must be there ahead of what they are.
				refused(t, s, wrong[:size-1], bad)
			}
		}
	}
}

// TL1: what is wrong first is told, from the left.
func TestOneOrder(t *testing.T) {
	for _, c := range []struct {
		s    Shape
		b    []byte
		want api.Errno
	}{
		{padded, []byte{0, 1, 0}, bad},
		{padded, []byte{0, 1, 0, 3}, bad},
		{padded, []byte{0, 1, 0, 0, 9, 9, 9, 9}, bad},
		{padded, []byte{0, 1, 0, 4}, bad},
		{padded, []byte{0, 1, 0, 4, 0, 0, 0}, bad},
		{padded, []byte{0, 1, 0, 4, 9, 0, 0}, bad},
		{padded, []byte{0, 1, 0, 4, 9, 0, 0, 0}, odd},
		{padded, []byte{0, 1, 0, 4, 0, 0, 0, 9}, odd},
		{padded, []byte{0, 1, 0, 9, 1, 2, 3, 4, 5, 6}, bad},
		{padded, []byte{255, 255, 255, 255, 0}, bad},
		{stepped, []byte{0, 1, 0, 4}, bad},
		{stepped, []byte{0, 1, 0, 9, 0, 0, 0, 0, 0}, bad},
		{stepped, []byte{0, 1, 0, 8}, bad},
		{stepped, []byte{0, 1, 0, 16, 0, 0, 0, 0}, bad},
		{stepped, []byte{0, 1, 0, 15, 0, 0, 0, 0, 0, 0, 0, 0, 0, 0, 0, 0}, bad},
	} {
		refused(t, c.s, c.b, c.want)
	}
	// Where Bad and Odd are one error that is told.
	refused(t, Shape{4, 8, true, odd, odd}, []byte{0, 1, 0, 4, 9, 0, 0, 0}, odd)
}

// TL1: the greatest things, with zeros that reach beyond the greatest length.
func TestOneGreatest(t *testing.T) {
	x := Item{65535, count(65531)}
	for _, c := range []struct {
		s    Shape
		size int
	}{
		{Shape{4, 1, false, bad, odd}, 65535},
		{Shape{60000, 5, false, bad, odd}, 65535},
		{Shape{4, 1, true, bad, odd}, 65535},
		{Shape{4, 64, true, bad, odd}, 65536},
		{Shape{4, 59, true, bad, odd}, 65549},
		{Shape{60000, 62, true, bad, odd}, 65596},
	} {
		b := plain(x, c.size-65535)
		first(t, c.s, b, x, c.size)
		refused(t, c.s, b[:c.size-1], bad)
		if c.size > 65535 {
			b[c.size-1] = 1
			refused(t, c.s, b, odd)
			b[c.size-1] = 0
		}
		if l, e := Cut(c.s, slices.Concat(b, b)); e != api.OK || !sameItems(l, []Item{x, x}) {
			t.Errorf("Cut by %v: %d things, %d", c.s, len(l), e)
		}
		if got, e := Join(c.s, x, x); e != api.OK || !slices.Equal(got, slices.Concat(b, b)) {
			t.Errorf("Join by %v: %d bytes, %d", c.s, len(got), e)
		}
		notJoined(t, c.s, Item{1, count(65532)})
	}
}

// TL1: of each type, and of what is behind the thing nothing.
func TestOneType(t *testing.T) {
	for _, kind := range []int{0, 1, 255, 256, 258, 32768, 65535} {
		b := plain(Item{kind, count(4)}, 0)
		first(t, stepped, append(b, 255, 255, 255), Item{kind, count(4)}, 8)
		first(t, padded, append(b, 255), Item{kind, count(4)}, 8)
	}
}

// TL1: a length of 0 is none; the least thing has no body.
func TestOneWithoutBody(t *testing.T) {
	s := Shape{4, 4, false, bad, odd}
	refused(t, s, head(0, 0), bad)
	first(t, s, head(3, 4), Item{3, nil}, 4)
	first(t, padded, append(head(3, 4), 0, 0, 0, 0), Item{3, nil}, 8)
}

// TL2: many things, one behind the other, to the end.
func TestCut(t *testing.T) {
	for _, c := range []struct {
		s    Shape
		b    []byte
		want []Item
	}{
		{padded, nil, nil},
		{padded, []byte{}, nil},
		{padded, []byte{0, 1, 0, 4, 0, 0, 0, 0}, []Item{{1, nil}}},
		{padded, []byte{0, 1, 0, 6, 9, 9, 0, 0, 1, 0, 0, 8, 1, 2, 3, 4, 0, 1, 0, 9, 1, 2, 3, 4, 5, 0, 0, 0, 0, 0, 0, 0},
			[]Item{{1, []byte{9, 9}}, {256, count(4)}, {1, count(5)}}},
		{stepped, []byte{0, 1, 0, 8, 1, 2, 3, 4, 0, 1, 0, 8, 1, 2, 3, 4}, []Item{{1, count(4)}, {1, count(4)}}},
		{Shape{4, 1, false, bad, odd}, []byte{0, 0, 0, 4, 0, 2, 0, 5, 0, 0, 0, 0, 4}, []Item{{0, nil}, {2, []byte{0}}, {0, nil}}},
		{Shape{4, 1, true, bad, odd}, []byte{0, 0, 0, 4, 0, 2, 0, 5, 0, 0, 0, 0, 4}, []Item{{0, nil}, {2, []byte{0}}, {0, nil}}},
		// Zeros go from a thing's own beginning to a multiple, wherever that is among all bytes.
		{Shape{4, 3, true, bad, odd}, []byte{0, 1, 0, 4, 0, 0, 0, 2, 0, 4, 0, 0}, []Item{{1, nil}, {2, nil}}},
	} {
		if l, e := Cut(c.s, c.b); e != api.OK || !sameItems(l, c.want) {
			t.Errorf("Cut by %v of %v: %v, %d", c.s, c.b, l, e)
		}
	}
}

// TL2: the first error is told, and no thing with it.
func TestCutFirstError(t *testing.T) {
	fine := []byte{0, 1, 0, 6, 9, 9, 0, 0}
	short := []byte{0, 1, 0, 6, 9, 9, 0}
	notZero := []byte{0, 1, 0, 6, 9, 9, 0, 1}
	least := []byte{0, 1, 0, 3, 0, 0, 0, 0}
	for _, c := range []struct {
		want  api.Errno
		parts [][]byte
	}{
		{bad, [][]byte{fine, short}},
		{odd, [][]byte{fine, notZero}},
		{bad, [][]byte{fine, least}},
		{odd, [][]byte{fine, notZero, least}},
		{bad, [][]byte{fine, least, notZero}},
		{odd, [][]byte{notZero, fine, short}},
		{bad, [][]byte{fine, fine, fine, {0}}},
		{bad, [][]byte{fine, fine, {0, 0, 0}}},
		{bad, [][]byte{fine, {0, 0, 0, 0}}},
	} {
		b := slices.Concat(c.parts...)
		if l, e := Cut(padded, b); e != c.want || l != nil {
			t.Errorf("Cut of %v: %v, %d; not %d", b, l, e, c.want)
		}
	}
}

// TL3: a type out of range, in whatever place.
func TestJoinType(t *testing.T) {
	fine := Item{1, count(4)}
	for _, kind := range []int{math.MinInt, -65536, -65535, -1, 65536, 65537, 131072, 1 << 32, math.MaxInt} {
		x := Item{kind, count(4)}
		for _, s := range []Shape{padded, stepped} {
			notJoined(t, s, x)
			notJoined(t, s, x, fine)
			notJoined(t, s, fine, x)
			notJoined(t, s, fine, x, fine)
		}
	}
	for _, kind := range []int{0, 1, 255, 256, 65534, 65535} {
		x := Item{kind, count(4)}
		for _, s := range []Shape{padded, stepped} {
			if b, e := Join(s, x); e != api.OK || !slices.Equal(b, plain(x, 0)) {
				t.Errorf("of the type %d: %v, %d", kind, b, e)
			}
		}
	}
}

// TL3: a length that may not be, by Least, by Step, and above all.
func TestJoinLength(t *testing.T) {
	for _, least := range []int{4, 5, 8, 16, 60000} {
		for _, step := range []int{1, 2, 8, 63, 64} {
			for _, n := range []int{0, 1, 2, 3, 4, 5, 12, 59, 60, 124, 59994, 59995, 59996, 59997, 65500, 65528, 65531, 65532, 65533, 66000, 131068, 131072} {
				x := Item{9, count(n)}
				short := n+4 < least || n+4 > 65535
				zeros := (step - (n+4)%step) % step
				joins(t, Shape{least, step, true, bad, odd}, x, !short, plain(x, zeros))
				joins(t, Shape{least, step, false, bad, odd}, x, !short && zeros == 0, plain(x, 0))
			}
		}
	}
}

// joins asks Join for bytes, or, if the thing may not be, for ErrArg.
func joins(t *testing.T, s Shape, x Item, may bool, want []byte) {
	t.Helper()
	if !may {
		notJoined(t, s, x)
		notJoined(t, s, Item{1, count(59996)}, x)
		return
	}
	if b, e := Join(s, x); e != api.OK || !slices.Equal(b, want) {
		t.Errorf("Join by %v of a body of %d: %d bytes, %d; not %d bytes", s, len(x.Body), len(b), e, len(want))
	}
}

// TL2, TL3, TL4: there is no bound to how many bytes all things have together.
func TestMany(t *testing.T) {
	l := slices.Repeat([]Item{{1, count(65524)}, {2, nil}}, 40)
	want := slices.Repeat(append(plain(l[0], 0), 0, 2, 0, 4, 0, 0, 0, 0), 40)
	b, e := Join(padded, l...)
	if e != api.OK || !slices.Equal(b, want) {
		t.Fatalf("Join: %d bytes, %d", len(b), e)
	}
	if got, e := Cut(padded, b); e != api.OK || !sameItems(got, l) {
		t.Errorf("Cut: %d things, %d", len(got), e)
	}
	small := slices.Repeat([]Item{{3, nil}}, 300000)
	b, e = Join(Shape{4, 1, false, bad, odd}, small...)
	if e != api.OK || len(b) != 1200000 {
		t.Fatalf("Join of small things: %d bytes, %d", len(b), e)
	}
	if got, e := Cut(Shape{4, 1, false, bad, odd}, b); e != api.OK || !sameItems(got, small) {
		t.Errorf("Cut of small things: %d, %d", len(got), e)
	}
	if got, e := Cut(Shape{4, 1, false, bad, odd}, b[:len(b)-1]); e != bad || got != nil {
		t.Errorf("Cut of small things, a byte less: %d, %d", len(got), e)
	}
}

// TL4: what was joined is cut, and the other way round, at shapes and lists of many kinds.
func TestThereAndBack(t *testing.T) {
	for _, pad := range []bool{false, true} {
		for step := 1; step <= 64; step++ {
			for _, least := range []int{4, 7, 16} {
				s := Shape{least, step, pad, bad, odd}
				var l []Item
				for n := range 80 {
					if n+4 >= least && (pad || (n+4)%step == 0) {
						l = append(l, Item{n * 700, count(n)})
					}
				}
				thereAndBack(t, s, l)
			}
		}
	}
}

func thereAndBack(t *testing.T, s Shape, l []Item) {
	t.Helper()
	b, e := Join(s, l...)
	if e != api.OK {
		t.Fatalf("Join by %v of %d things: %d", s, len(l), e)
	}
	back, e := Cut(s, b)
	if e != api.OK || !sameItems(back, l) {
		t.Fatalf("by %v: %d things, %d; not %d things", s, len(back), e, len(l))
	}
	if again, e := Join(s, back...); e != api.OK || !slices.Equal(again, b) {
		t.Errorf("by %v: %d bytes, %d; not %d bytes", s, len(again), e, len(b))
	}
}

// Rule 4: what lies behind a list's length is not read.
func TestLengths(t *testing.T) {
	b := []byte{0, 1, 0, 6, 9, 9, 0, 0, 5, 5}
	refused(t, padded, b[:7], bad)
	refused(t, padded, b[:3], bad)
	if l, e := Cut(padded, b[:8]); e != api.OK || !sameItems(l, []Item{{1, []byte{9, 9}}}) {
		t.Errorf("Cut: %v, %d", l, e)
	}
	l := []Item{{1, b[:2]}, {-1, nil}}
	got, e := Join(padded, l[:1]...)
	if e != api.OK || !slices.Equal(got, []byte{0, 1, 0, 6, 0, 1, 0, 0}) {
		t.Errorf("Join: %v, %d", got, e)
	}
	for _, x := range got[len(got):cap(got)] {
		if x != 0 {
			t.Errorf("behind the answer lies %v", got[len(got):cap(got)])
		}
	}
}

// Rule 5: what is handed in stays, and what is answered is new memory, each list for itself.
func TestMemory(t *testing.T) {
	b := []byte{0, 1, 0, 6, 9, 9, 0, 0, 0, 2, 0, 8, 1, 2, 3, 4, 0, 3, 0, 4, 0, 0, 0, 0}
	handed := slices.Clone(b)
	x, _, _ := One(padded, b)
	l, _ := Cut(padded, b)
	want := []Item{{1, []byte{9, 9}}, {2, count(4)}, {3, nil}}
	for i := range b {
		b[i] = 77
	}
	if !sameItem(x, want[0]) || !sameItems(l, want) {
		t.Errorf("what was handed in is kept: %v, %v", x, l)
	}
	copy(b, handed)
	x.Body[0] = 55
	for i := range l {
		_ = append(l[i].Body, 44, 44, 44, 44, 44, 44, 44, 44)
	}
	if !sameItems(l, want) || !slices.Equal(b, handed) {
		t.Errorf("answers share memory: %v, %v", l, b)
	}
	joined, _ := Join(padded, l...)
	l[0].Body[0] = 33
	if !slices.Equal(joined, handed) {
		t.Errorf("what was handed in is kept: %v", joined)
	}
	joined[4] = 22
	if l[0].Body[0] != 33 {
		t.Errorf("what was handed in has changed: %v", l)
	}
}

// modelCut is what Cut should tell, as plainly as can be.
func modelCut(s Shape, b []byte) ([]Item, api.Errno) {
	var l []Item
	for len(b) > 0 {
		if len(b) < 4 {
			return nil, s.Bad
		}
		length := int(b[2])*256 + int(b[3])
		if length < s.Least || !s.Pad && length%s.Step != 0 {
			return nil, s.Bad
		}
		size := length
		for s.Pad && size%s.Step != 0 {
			size++
		}
		if len(b) < size {
			return nil, s.Bad
		}
		for _, x := range b[length:size] {
			if x != 0 {
				return nil, s.Odd
			}
		}
		l = append(l, Item{int(b[0])*256 + int(b[1]), b[4:length]})
		b = b[size:]
	}
	return l, api.OK
}

// holds holds Cut against its model, One against Cut, and Join against both.
func holds(t *testing.T, s Shape, b []byte) {
	t.Helper()
	want, wantErr := modelCut(s, b)
	l, e := Cut(s, b)
	if e != wantErr || !sameItems(l, want) || e != api.OK && l != nil {
		t.Fatalf("Cut by %v of %v: %v, %d; not %v, %d", s, b, l, e, want, wantErr)
	}
	if e != api.OK {
		return
	}
	if again, e := Join(s, l...); e != api.OK || !slices.Equal(again, b) {
		t.Fatalf("Join by %v of %v: %v, %d", s, l, again, e)
	}
	for _, x := range l {
		y, n, e := One(s, b)
		if e != api.OK || !sameItem(x, y) || n < 4+len(x.Body) || n > len(b) {
			t.Fatalf("One by %v of %v: %v, %d, %d", s, b, y, n, e)
		}
		b = b[n:]
	}
}

// TL1 to TL4 together: any bytes, by any shape, are held against the model.
func FuzzCut(f *testing.F) {
	f.Add(uint8(0), uint8(7), true, []byte{0, 1, 0, 6, 9, 9, 0, 0})
	f.Add(uint8(4), uint8(7), false, []byte{0, 1, 0, 8, 9, 9, 0, 0, 0, 1, 0, 16, 1, 2, 3, 4, 5, 6, 7, 8, 9, 0, 1, 2})
	f.Add(uint8(0), uint8(2), true, []byte{0, 1, 0, 4, 0, 0, 0, 2, 0, 4, 0, 1})
	f.Fuzz(func(t *testing.T, least, step uint8, pad bool, b []byte) {
		holds(t, Shape{4 + int(least), 1 + int(step)%64, pad, bad, odd}, b)
	})
}

// TL1 to TL4: the same over a long row of lists that is always the same one, with one byte changed, or the end cut off.
func TestModel(t *testing.T) {
	state := uint32(1)
	next := func(n int) int {
		state = state*1664525 + 1013904223
		return int(state>>16) % n
	}
	for range 20000 {
		s := Shape{4 + next(6), 1 + next(9), next(2) == 0, bad, odd}
		var b []byte
		for range next(5) {
			length := s.Least + next(12)
			zeros := (s.Step - length%s.Step) % s.Step
			if !s.Pad {
				length, zeros = length+zeros, 0
			}
			b = append(b, plain(Item{next(65536), count(length - 4)}, zeros)...)
		}
		if len(b) > 0 && next(3) == 0 {
			b[next(len(b))] = byte(next(20))
		}
		if len(b) > 0 && next(6) == 0 {
			b = b[:next(len(b))]
		}
		holds(t, s, b)
	}
}
