package cursor

import (
	"math"
	"slices"
	"testing"

	"gunwale/api"
	"gunwale/row"
)

// The faults of the cursors under test: those of Sub's differ from those of New's.
const (
	short    = api.BadLen
	odd      = api.BadPacket
	subShort = api.ActLen
	subOdd   = api.ActArg
)

// count is the bytes 1, 2, .. of that length.
func count(n int) []byte {
	b := make([]byte, n)
	for i := range b {
		b[i] = byte(i + 1)
	}
	return b
}

// stands holds a cursor against the fault and the places that it should tell.
func stands(t *testing.T, what string, c *Cursor, err api.Errno, at, left int) {
	t.Helper()
	if c.Err() != err || c.At() != at || c.Left() != left {
		t.Errorf("%s: Err %d, At %d, Left %d; not %d, %d, %d", what, c.Err(), c.At(), c.Left(), err, at, left)
	}
}

// readsNothing asks each call that reads, with arguments that would do, and asks that nothing has changed by it.
func readsNothing(t *testing.T, what string, c *Cursor) {
	t.Helper()
	err, at, left := c.Err(), c.At(), c.Left()
	for width := range 12 {
		if n := c.Num(width - 1); n != 0 {
			t.Errorf("%s: Num(%d) %d", what, width-1, n)
		}
	}
	for _, w := range [][]int{nil, {1}, {-1}, {0}, {1, 1}, {9}} {
		if nums := c.Row(w...); len(nums) != 0 {
			t.Errorf("%s: Row(%v) %v", what, w, nums)
		}
	}
	for _, n := range []int{math.MinInt, -1, 0, 1, 2, math.MaxInt} {
		if b := c.Bytes(n); len(b) != 0 {
			t.Errorf("%s: Bytes(%d) %v", what, n, b)
		}
		if s := c.Sub(n, subShort, subOdd); s != nil {
			t.Errorf("%s: Sub(%d) is not nil", what, n)
		}
	}
	if b := c.Look(); len(b) != 0 {
		t.Errorf("%s: Look %v", what, b)
	}
	if b := c.Rest(); len(b) != 0 {
		t.Errorf("%s: Rest %v", what, b)
	}
	c.Fail(api.BadType)
	stands(t, what, c, err, at, left)
}

// The chapter's example.
func TestExample(t *testing.T) {
	c := New([]byte{1, 2, 0, 3}, short, odd)
	if nums := c.Row(2); !slices.Equal(nums, []uint64{258}) {
		t.Errorf("Row(2): %v", nums)
	}
	if nums := c.Row(-1, 1); !slices.Equal(nums, []uint64{3}) {
		t.Errorf("Row(-1, 1): %v", nums)
	}
	stands(t, "read to the end", c, api.OK, 4, 0)
	if n := c.Num(1); n != 0 {
		t.Errorf("Num(1): %d", n)
	}
	stands(t, "read beyond the end", c, short, 4, 0)
}

// Of a nil Cursor, and of one that no call made, there is nothing, and no call changes that.
func TestNoCursor(t *testing.T) {
	for what, c := range map[string]*Cursor{"nil": nil, "not made": {}, "new": new(Cursor)} {
		stands(t, what, c, api.ErrArg, 0, 0)
		readsNothing(t, what, c)
		c.Fail(api.OK)
		c.Fail(api.BadLen)
		stands(t, what, c, api.ErrArg, 0, 0)
	}
}

// CU1: a cursor begins at the beginning, without a fault, of no bytes as of many.
func TestNew(t *testing.T) {
	for _, b := range [][]byte{nil, {}, {7}, count(5), make([]byte, 70000)} {
		c := New(b, short, odd)
		if c == nil {
			t.Fatalf("New of %d bytes: nil", len(b))
		}
		stands(t, "New", c, api.OK, 0, len(b))
		if got := c.Look(); !slices.Equal(got, b) {
			t.Errorf("of %d bytes, Look: %d", len(b), len(got))
		}
	}
}

// CU1: it doesn't matter whether what is handed in changes, and it is not changed.
func TestNewKeepsNothing(t *testing.T) {
	b := count(8)
	c := New(b[:6], short, odd)
	s := New(b[:6], short, odd).Sub(3, subShort, subOdd)
	for i := range b {
		b[i] = 99
	}
	if got := s.Rest(); !slices.Equal(got, []byte{1, 2, 3}) {
		t.Errorf("of a Sub: %v", got)
	}
	if n := c.Num(2); n != 258 {
		t.Errorf("Num(2): %d", n)
	}
	if got := c.Rest(); !slices.Equal(got, []byte{3, 4, 5, 6}) {
		t.Errorf("Rest: %v", got)
	}
	for i, x := range b {
		if x != 99 {
			t.Errorf("byte %d that was handed in has changed to %d", i, x)
		}
	}
}

// CU1, rule 5: the bytes and widths that are handed in stay as they are.
func TestHandedInStays(t *testing.T) {
	b := count(9)
	w := []int{1, 2, 0}
	c := New(b, short, odd)
	c.Row(w[:2]...)
	c.Look()[0] = 77
	c.Sub(2, subShort, subOdd).Rest()[0] = 77
	c.Bytes(2)[0] = 77
	c.Rest()[0] = 77
	if !slices.Equal(b, count(9)) || !slices.Equal(w, []int{1, 2, 0}) {
		t.Errorf("what was handed in has changed: %v, %v", b, w)
	}
}

// CU2: numbers of every width, the highest byte first.
func TestNum(t *testing.T) {
	want := []uint64{0, 0x01, 0x0102, 0x010203, 0x01020304, 0x0102030405, 0x010203040506, 0x01020304050607, 0x0102030405060708}
	for width := 1; width <= 8; width++ {
		c := New(count(9), short, odd)
		if n := c.Num(width); n != want[width] {
			t.Errorf("Num(%d): %d", width, n)
		}
		stands(t, "Num", c, api.OK, width, 9-width)
		if n := c.Num(1); n != uint64(width+1) {
			t.Errorf("behind Num(%d): %d", width, n)
		}
		c = New(slices.Repeat([]byte{255}, width), short, odd)
		if n := c.Num(width); n != math.MaxUint64>>(64-8*width) {
			t.Errorf("the greatest of %d bytes: %d", width, n)
		}
	}
}

// CU2: a number of no such width, whether there are bytes or not, is ErrArg; widths of zeros are none here.
func TestNumWidth(t *testing.T) {
	for _, width := range []int{math.MinInt, -65, -64, -1, 0, 9, 64, math.MaxInt} {
		for _, n := range []int{0, 1, 100} {
			c := New(make([]byte, n), short, odd)
			if got := c.Num(width); got != 0 {
				t.Errorf("Num(%d): %d", width, got)
			}
			stands(t, "no width", c, api.ErrArg, 0, n)
			readsNothing(t, "no width", c)
		}
	}
}

// CU2, CU3: too few bytes for a number; those that are left are not read.
func TestNumShort(t *testing.T) {
	for width := 1; width <= 8; width++ {
		for n := range width {
			c := New(count(n+2), short, odd)
			c.Num(2)
			if got := c.Num(width); got != 0 {
				t.Errorf("Num(%d) of %d bytes: %d", width, n, got)
			}
			stands(t, "too few", c, short, 2, n)
			readsNothing(t, "too few", c)
		}
	}
}

// CU2: rows, behind one byte that is read: the numbers, or the fault, and how many bytes were read by it.
func TestRow(t *testing.T) {
	for _, c := range []struct {
		w    []int
		b    []byte
		want []uint64
		err  api.Errno
	}{
		{[]int{2, -1, 1}, []byte{1, 2, 0, 3}, []uint64{258, 3}, api.OK},
		{[]int{2, -1, 1}, []byte{1, 2, 0, 3, 9}, []uint64{258, 3}, api.OK},
		{nil, nil, nil, api.OK},
		{nil, []byte{1}, nil, api.OK},
		{[]int{-2}, []byte{0, 0, 9}, nil, api.OK},
		{[]int{8, 8}, slices.Repeat([]byte{255}, 16), []uint64{math.MaxUint64, math.MaxUint64}, api.OK},
		{[]int{-64, 1}, append(make([]byte, 64), 5), []uint64{5}, api.OK},
		{slices.Repeat([]int{1}, 64), slices.Repeat([]byte{3}, 64), slices.Repeat([]uint64{3}, 64), api.OK},
		{[]int{2, -1, 1}, []byte{1, 2, 0}, nil, short},
		{[]int{2, -1, 1}, []byte{1, 2}, nil, short},
		{[]int{2, -1, 1}, []byte{1}, nil, short},
		{[]int{2, -1, 1}, nil, nil, short},
		{[]int{-2}, []byte{0}, nil, short},
		{[]int{2, -1, 1}, []byte{1, 2, 1, 3}, nil, odd},
		{[]int{2, -1, 1}, []byte{1, 2, 1}, nil, odd},
		{[]int{-1}, []byte{128}, nil, odd},
		{[]int{0}, []byte{1}, nil, odd},
		{[]int{9}, count(9), nil, odd},
		{[]int{1, 9}, nil, nil, odd},
		{[]int{-65}, make([]byte, 70), nil, odd},
		{slices.Repeat([]int{1}, 65), count(65), nil, odd},
	} {
		x := New(append([]byte{7}, c.b...), short, odd)
		x.Num(1)
		nums := x.Row(c.w...)
		if !slices.Equal(nums, c.want) {
			t.Errorf("Row(%v) of %v: %v", c.w, c.b, nums)
		}
		if c.err == api.OK {
			size := row.Size(c.w...)
			stands(t, "Row", x, api.OK, 1+size, len(c.b)-size)
			if got := x.Rest(); !slices.Equal(got, c.b[size:]) {
				t.Errorf("behind Row(%v) of %v: %v", c.w, c.b, got)
			}
			continue
		}
		stands(t, "Row", x, c.err, 1, len(c.b))
		readsNothing(t, "Row", x)
	}
}

// CU2: the faults are those of the cursor, whatever they are.
func TestFaultsAreTheCursors(t *testing.T) {
	for _, e := range []api.Errno{api.HelloNone, api.FeatLen, api.ErrScript, -5, math.MaxInt} {
		c := New(nil, e, api.BadPacket)
		c.Num(1)
		stands(t, "short", c, e, 0, 0)
		c = New(nil, e, api.BadPacket)
		c.Bytes(1)
		stands(t, "short", c, e, 0, 0)
		c = New([]byte{1}, api.BadLen, e)
		c.Row(-1)
		stands(t, "odd", c, e, 0, 1)
	}
}

// CU2: a fault that is OK is none: nothing is read by the call, and reading goes on.
func TestFaultOK(t *testing.T) {
	c := New([]byte{1, 2}, api.OK, api.OK)
	if c.Num(3) != 0 || len(c.Row(-1)) != 0 || len(c.Bytes(3)) != 0 || c.Sub(3, short, odd) != nil {
		t.Errorf("something was read beyond the end, or of a byte that must be 0")
	}
	stands(t, "OK as a fault", c, api.OK, 0, 2)
	if n := c.Num(2); n != 258 {
		t.Errorf("Num(2): %d", n)
	}
}

// CU2: the next bytes, as many as there are, and the edges on both sides.
func TestBytes(t *testing.T) {
	for n := range 6 {
		c := New(count(5), short, odd)
		if got := c.Bytes(n); !slices.Equal(got, count(5)[:n]) {
			t.Errorf("Bytes(%d): %v", n, got)
		}
		stands(t, "Bytes", c, api.OK, n, 5-n)
		if got := c.Rest(); !slices.Equal(got, count(5)[n:]) {
			t.Errorf("behind Bytes(%d): %v", n, got)
		}
		if got := c.Rest(); len(got) != 0 {
			t.Errorf("Rest twice: %v", got)
		}
		stands(t, "Rest", c, api.OK, 5, 0)
	}
	for n, e := range map[int]api.Errno{-1: api.ErrArg, -5: api.ErrArg, math.MinInt: api.ErrArg, 5: short, 6: short, math.MaxInt: short} {
		c := New(count(5), short, odd)
		c.Num(1)
		if got := c.Bytes(n); len(got) != 0 {
			t.Errorf("Bytes(%d): %v", n, got)
		}
		stands(t, "Bytes", c, e, 1, 4)
		readsNothing(t, "Bytes", c)
	}
}

// CU2: Look reads nothing, as often as it is asked, and tells what Rest would.
func TestLook(t *testing.T) {
	c := New(count(5), short, odd)
	c.Num(2)
	for range 3 {
		if got := c.Look(); !slices.Equal(got, []byte{3, 4, 5}) {
			t.Errorf("Look: %v", got)
		}
		stands(t, "Look", c, api.OK, 2, 3)
	}
	if got := c.Rest(); !slices.Equal(got, []byte{3, 4, 5}) {
		t.Errorf("Rest: %v", got)
	}
	if got := c.Look(); len(got) != 0 {
		t.Errorf("Look at the end: %v", got)
	}
	stands(t, "at the end", c, api.OK, 5, 0)
}

// CU2: a Sub has the next bytes, from its own beginning, with its own faults; what becomes of it is of no matter to the other.
func TestSub(t *testing.T) {
	c := New(count(6), short, odd)
	c.Num(1)
	s := c.Sub(3, subShort, subOdd)
	if s == nil {
		t.Fatal("Sub(3): nil")
	}
	stands(t, "the cursor", c, api.OK, 4, 2)
	stands(t, "its Sub", s, api.OK, 0, 3)
	if n := s.Num(2); n != 0x0203 {
		t.Errorf("the Sub's Num(2): %d", n)
	}
	if n := s.Num(2); n != 0 {
		t.Errorf("beyond the Sub's end: %d", n)
	}
	stands(t, "its Sub", s, subShort, 2, 1)
	readsNothing(t, "its Sub", s)
	stands(t, "the cursor", c, api.OK, 4, 2)
	if n := c.Num(2); n != 0x0506 {
		t.Errorf("behind the Sub: %d", n)
	}
}

// CU2: a Sub of a byte that must be 0, and one of a Sub, whose fault is that one's own.
func TestSubFaults(t *testing.T) {
	s := New(count(6), short, odd).Sub(4, subShort, subOdd)
	s.Row(-1)
	stands(t, "odd", s, subOdd, 0, 4)
	s = New(count(6), short, odd).Sub(4, subShort, subOdd)
	inner := s.Sub(2, api.SetLen, api.SetArg)
	if inner.Num(3) != 0 || s.Sub(3, api.SetLen, api.SetArg) != nil {
		t.Errorf("something was read beyond the end")
	}
	stands(t, "the inner one", inner, api.SetLen, 0, 2)
	stands(t, "the outer one", s, subShort, 2, 2)
	s = New(count(6), short, odd).Sub(4, subShort, subOdd)
	s.Fail(api.BadType)
	stands(t, "told by itself", s, api.BadType, 0, 4)
}

// CU2: a fault of the one that was cut ends no Sub.
func TestSubOutlives(t *testing.T) {
	c := New(count(3), short, odd)
	s := c.Sub(2, subShort, subOdd)
	c.Fail(api.BadType)
	if n := s.Num(2); n != 258 || s.Err() != api.OK {
		t.Errorf("the Sub's Num(2): %d, %d", n, s.Err())
	}
}

// CU2: Sub of no bytes, of all, of more, and of fewer than none.
func TestSubEdges(t *testing.T) {
	for _, b := range [][]byte{nil, count(4)} {
		for _, n := range []int{0, len(b)} {
			c := New(b, short, odd)
			s := c.Sub(n, subShort, subOdd)
			if s == nil {
				t.Fatalf("Sub(%d) of %d: nil", n, len(b))
			}
			stands(t, "the cursor", c, api.OK, n, len(b)-n)
			stands(t, "its Sub", s, api.OK, 0, n)
			if got := s.Rest(); !slices.Equal(got, b[:n]) {
				t.Errorf("Sub(%d): %v", n, got)
			}
		}
	}
	for n, e := range map[int]api.Errno{-1: api.ErrArg, math.MinInt: api.ErrArg, 4: short, 5: short, math.MaxInt: short} {
		c := New(count(4), short, odd)
		c.Num(1)
		if c.Sub(n, subShort, subOdd) != nil {
			t.Errorf("Sub(%d) is not nil", n)
		}
		stands(t, "Sub", c, e, 1, 3)
		readsNothing(t, "Sub", c)
	}
}

// CU3: the first fault holds; OK is none.
func TestFail(t *testing.T) {
	c := New(count(4), short, odd)
	c.Num(1)
	c.Fail(api.OK)
	stands(t, "OK", c, api.OK, 1, 3)
	if n := c.Num(1); n != 2 {
		t.Errorf("behind Fail(OK): %d", n)
	}
	c.Fail(api.BadTable)
	stands(t, "Fail", c, api.BadTable, 2, 2)
	readsNothing(t, "Fail", c)
	c.Fail(api.BadPort)
	c.Fail(api.OK)
	stands(t, "Fail twice", c, api.BadTable, 2, 2)
}

// CU3: each kind of fault stays, whatever comes behind it.
func TestFirstFaultHolds(t *testing.T) {
	faults := map[api.Errno]func(c *Cursor){
		short:        func(c *Cursor) { c.Num(8) },
		odd:          func(c *Cursor) { c.Row(-1) },
		api.ErrArg:   func(c *Cursor) { c.Num(9) },
		api.BadTable: func(c *Cursor) { c.Fail(api.BadTable) },
	}
	for first, do := range faults {
		for _, other := range faults {
			c := New(count(4), short, odd)
			c.Num(1)
			do(c)
			other(c)
			stands(t, "two faults", c, first, 1, 3)
			readsNothing(t, "two faults", c)
		}
	}
}

// Rule 5: no two answers share memory, nor one with what the cursor still reads.
func TestMemory(t *testing.T) {
	c := New(count(6), short, odd)
	looked := c.Look()
	for _, x := range [][]byte{looked, c.Look(), c.Look()} {
		for i := range x {
			x[i] = 99
		}
	}
	s := c.Sub(2, subShort, subOdd)
	s.Look()[0] = 99
	got := c.Bytes(2)
	if !slices.Equal(got, []byte{3, 4}) {
		t.Errorf("Bytes: %v", got)
	}
	_ = append(got, 99)
	rest := c.Rest()
	if !slices.Equal(rest, []byte{5, 6}) {
		t.Errorf("Rest: %v", rest)
	}
	if b := s.Rest(); !slices.Equal(b, []byte{1, 2}) {
		t.Errorf("of the Sub: %v", b)
	}
	rest[0] = 98
	if !slices.Equal(got, []byte{3, 4}) || looked[4] != 99 {
		t.Errorf("answers share memory: %v, %v", got, looked)
	}
}

// Rule 4: what lies behind a list's length is neither read nor handed out.
func TestLengths(t *testing.T) {
	c := New(count(8)[:3], short, odd)
	for _, b := range [][]byte{c.Look(), c.Bytes(1), c.Look(), c.Rest(), c.Rest()} {
		for _, x := range b[len(b):cap(b)] {
			if x != 0 {
				t.Errorf("behind %v lies %v", b, b[len(b):cap(b)])
			}
		}
	}
	c = New(count(8)[:3], short, odd)
	if c.Num(4) != 0 || c.Err() != short {
		t.Errorf("a number of 4 bytes was read of 3")
	}
	w := []int{1, 1, 0}
	if nums := New(count(3), short, odd).Row(w[:2]...); !slices.Equal(nums, []uint64{1, 2}) {
		t.Errorf("Row by 2 of 3 widths: %v", nums)
	}
}

// model is what a cursor should be, told as plainly as can be: all bytes, how many were read, and the fault.
type model struct {
	all        []byte
	at         int
	short, odd api.Errno
	err        api.Errno
}

// read tells the next n bytes, and whether there are so many.
func (m *model) read(n int) ([]byte, bool) {
	if m.err != api.OK {
		return nil, false
	}
	if n < 0 {
		m.err = api.ErrArg
		return nil, false
	}
	if n > len(m.all)-m.at {
		m.err = m.short
		return nil, false
	}
	m.at += n
	return m.all[m.at-n : m.at], true
}

// row tells the numbers of a row of widths.
func (m *model) row(w []int) []uint64 {
	if m.err != api.OK {
		return nil
	}
	nums, what := row.Get(w, m.all[m.at:])
	if what == row.Short {
		m.err = m.short
	} else if what == row.Odd {
		m.err = m.odd
	} else {
		m.at += row.Size(w...)
	}
	return nums
}

// num tells a number of a width.
func (m *model) num(width int) uint64 {
	if m.err == api.OK && (width < 1 || width > 8) {
		m.err = api.ErrArg
	}
	b, _ := m.read(width)
	n := uint64(0)
	for _, x := range b {
		n = n*256 + uint64(x)
	}
	return n
}

// step does one thing with a cursor and its model, and tells both that go on: perhaps a Sub and that one's model.
func step(t *testing.T, op byte, n int, c *Cursor, m *model) (*Cursor, *model) {
	switch op % 8 {
	case 0, 1:
		if got, want := c.Num(n), m.num(n); got != want {
			t.Errorf("Num(%d): %d, not %d", n, got, want)
		}
	case 2:
		w := []int{n, 1}
		if got, want := c.Row(w...), m.row(w); !slices.Equal(got, want) {
			t.Errorf("Row(%v): %v, not %v", w, got, want)
		}
	case 3:
		w := []int{1, -n}
		if got, want := c.Row(w...), m.row(w); !slices.Equal(got, want) {
			t.Errorf("Row(%v): %v, not %v", w, got, want)
		}
	case 4:
		got := c.Bytes(n)
		if want, _ := m.read(n); !slices.Equal(got, want) {
			t.Errorf("Bytes(%d): %v, not %v", n, got, want)
		}
	case 5:
		want, _ := m.read(len(m.all) - m.at)
		if n%2 == 0 {
			m.at -= len(want)
			if got := c.Look(); !slices.Equal(got, want) {
				t.Errorf("Look: %v, not %v", got, want)
			}
		} else if got := c.Rest(); !slices.Equal(got, want) {
			t.Errorf("Rest: %v, not %v", got, want)
		}
	case 6:
		s := c.Sub(n, subShort, subOdd)
		b, ok := m.read(n)
		if (s != nil) != ok {
			t.Fatalf("Sub(%d): %v, not %v", n, s != nil, ok)
		}
		if ok {
			stands(t, "the one that was cut", c, m.err, m.at, len(m.all)-m.at)
			return s, &model{all: b, short: subShort, odd: subOdd}
		}
	case 7:
		c.Fail(api.Errno(n))
		if m.err == api.OK {
			m.err = api.Errno(n)
		}
	}
	return c, m
}

// CU1 to CU4 together: at any bytes and any calls a cursor does as its model; at each step what was read and what is left is all there is.
func FuzzCursor(f *testing.F) {
	f.Add(count(20), []byte{0, 2, 2, 3, 3, 1, 4, 2, 6, 5, 0, 1, 5, 0, 5, 1, 0, 1})
	f.Add([]byte{1, 0, 0, 7, 1}, []byte{3, 2, 2, 255, 0, 9})
	f.Add([]byte{}, []byte{4, 0, 6, 0, 5, 1, 4, 255, 7, 3})
	f.Add(count(9), []byte{7, 0, 0, 8, 7, 5, 7, 6, 0, 1})
	f.Fuzz(func(t *testing.T, b, ops []byte) {
		c, m := New(b, short, odd), &model{all: b, short: short, odd: odd}
		for i := 0; i+1 < len(ops); i += 2 {
			c, m = step(t, ops[i], int(int8(ops[i+1])), c, m)
			stands(t, "at a step", c, m.err, m.at, len(m.all)-m.at)
			if c.At()+c.Left() != len(m.all) {
				t.Errorf("At %d and Left %d of %d", c.At(), c.Left(), len(m.all))
			}
		}
	})
}

// CU4: cut into pieces in every way that three lengths make, the pieces are all there is.
func TestPiecesAreAll(t *testing.T) {
	all := count(12)
	for x := range 6 {
		for y := range 6 {
			c := New(all, short, odd)
			got := c.Bytes(x)
			got = append(got, c.Sub(y, subShort, subOdd).Rest()...)
			if !slices.Equal(append(slices.Clone(got), c.Look()...), all) {
				t.Errorf("behind %d and %d bytes, with what is left: %v, %v", x, y, got, c.Look())
			}
			for range c.Left() {
				got = append(got, byte(c.Num(1)))
				if c.At() != len(got) || c.Left() != len(all)-len(got) {
					t.Errorf("behind %d bytes: At %d, Left %d", len(got), c.At(), c.Left())
				}
			}
			if !slices.Equal(got, all) || c.Err() != api.OK {
				t.Errorf("by %d and %d bytes: %v, %d", x, y, got, c.Err())
			}
		}
	}
}
