package buffer

import (
	"math"
	"slices"
	"testing"

	"gunwale/api"
	"gunwale/row"
)

// most is for how many bytes there is room at most.
const most = 1000000

// count is the bytes 1, 2, .. of that length.
func count(n int) []byte {
	b := make([]byte, n)
	for i := range b {
		b[i] = byte(i + 1)
	}
	return b
}

// stands holds a buffer against the bytes that are written, with none held and no fault.
func stands(t *testing.T, what string, b *Buffer, want ...byte) {
	t.Helper()
	got, err := b.Done()
	if err != api.OK || !slices.Equal(got, want) || b.Len() != len(want) {
		t.Errorf("%s: Done %v, %d, Len %d; not %v", what, got, err, b.Len(), want)
	}
}

// fails holds a buffer against a fault, and how many bytes were written ahead of it.
func fails(t *testing.T, what string, b *Buffer, want api.Errno, n int) {
	t.Helper()
	got, err := b.Done()
	if err != want || len(got) != 0 || b.Len() != n {
		t.Errorf("%s: Done %v, %d, Len %d; not %d, Len %d", what, got, err, b.Len(), want, n)
	}
}

// writesNothing asks each call that writes, with arguments that would do, and asks that nothing has changed by it.
func writesNothing(t *testing.T, what string, b *Buffer) {
	t.Helper()
	_, err := b.Done()
	n := b.Len()
	for width := range 12 {
		b.Num(width-1, 0)
		if at := b.Hold(width - 1); at != 0 {
			t.Errorf("%s: Hold(%d) %d", what, width-1, at)
		}
	}
	b.Row(nil)
	b.Row([]int{1, -1}, 1)
	b.Row([]int{0}, 1)
	b.Bytes(nil)
	b.Bytes(count(3))
	for _, step := range []int{math.MinInt, -1, 0, 1, 2, 3, 64, 65, math.MaxInt} {
		b.Even(step)
	}
	for at := range 12 {
		b.Fill(at-1, 0)
	}
	b.Fail(api.BadType)
	fails(t, what, b, err, n)
}

// The chapter's example.
func TestExample(t *testing.T) {
	b := New(10)
	if at := b.Hold(2); at != 0 {
		t.Errorf("Hold(2): %d", at)
	}
	b.Num(1, 7)
	b.Fill(0, 3)
	stands(t, "the example", b, 0, 3, 7)
}

// Of a nil Buffer, and of one that no call made, there is nothing, and no call changes that.
func TestNoBuffer(t *testing.T) {
	for what, b := range map[string]*Buffer{"nil": nil, "not made": {}, "new": new(Buffer)} {
		fails(t, what, b, api.ErrArg, 0)
		writesNothing(t, what, b)
		b.Fail(api.OK)
		b.Fail(api.BadLen)
		fails(t, what, b, api.ErrArg, 0)
	}
}

// BU1: a buffer begins without bytes, and without a fault, whatever the room.
func TestNew(t *testing.T) {
	for _, room := range []int{math.MinInt, -1, 0, 1, 8, api.MaxFrame, most, most + 1, math.MaxInt} {
		stands(t, "New", New(room))
	}
}

// BU1, BU5: as many bytes as there is room for are written, and not one more.
func TestRoom(t *testing.T) {
	for room, want := range map[int]int{math.MinInt: 0, -1: 0, 0: 0, 1: 1, 2: 2, 70000: 70000, most - 1: most - 1, most: most, most + 1: most, math.MaxInt: most} {
		all := make([]byte, want)
		b := New(room)
		b.Bytes(all)
		stands(t, "all of the room", b, all...)
		b.Bytes(nil)
		stands(t, "no byte more", b, all...)
		b.Bytes([]byte{1})
		fails(t, "a byte more", b, api.ErrLong, want)
		writesNothing(t, "a byte more", b)
		b = New(room)
		b.Bytes(append(all, 1))
		fails(t, "a byte more at once", b, api.ErrLong, 0)
		writesNothing(t, "a byte more at once", b)
	}
}

// BU2, BU5: bytes stand one behind the other.
func TestBytes(t *testing.T) {
	b := New(6)
	b.Bytes([]byte{1, 2})
	b.Bytes([]byte{})
	b.Bytes([]byte{3, 4, 5})
	stands(t, "Bytes", b, 1, 2, 3, 4, 5)
	b.Bytes([]byte{6, 7})
	fails(t, "Bytes without room", b, api.ErrLong, 5)
	writesNothing(t, "Bytes without room", b)
}

// BU2: numbers of every width, the highest byte first.
func TestNum(t *testing.T) {
	for width := 1; width <= 8; width++ {
		b := New(width + 2)
		b.Num(1, 200)
		b.Num(width, 0x0102030405060708>>(64-8*width))
		b.Num(1, 201)
		want := append([]byte{200}, count(8)[:width]...)
		stands(t, "Num", b, append(want, 201)...)
		b = New(width)
		b.Num(width, math.MaxUint64>>(64-8*width))
		stands(t, "the greatest", b, slices.Repeat([]byte{255}, width)...)
	}
}

// BU2: a number that has not room in its width is ErrArg, whether the buffer has room or not.
func TestNumTooGreat(t *testing.T) {
	for width := 1; width <= 7; width++ {
		for _, n := range []uint64{1 << (8 * width), math.MaxUint64} {
			for _, room := range []int{1, 20} {
				b := New(room)
				b.Num(1, 1)
				b.Num(width, n)
				fails(t, "too great", b, api.ErrArg, 1)
				writesNothing(t, "too great", b)
			}
		}
	}
}

// BU2: a number of no such width is ErrArg, whether there is room or not; widths of zeros are none here.
func TestNumWidth(t *testing.T) {
	for _, width := range []int{math.MinInt, -65, -64, -1, 0, 9, 64, math.MaxInt} {
		for _, n := range []uint64{0, 1, math.MaxUint64} {
			for _, room := range []int{0, 100} {
				b := New(room)
				b.Num(width, n)
				fails(t, "no width", b, api.ErrArg, 0)
				writesNothing(t, "no width", b)
			}
		}
	}
}

// BU2: too little room for a number; nothing of it is written.
func TestNumLong(t *testing.T) {
	for width := 1; width <= 8; width++ {
		for left := range width {
			b := New(left + 2)
			b.Num(2, 258)
			b.Num(width, 1)
			fails(t, "no room", b, api.ErrLong, 2)
			writesNothing(t, "no room", b)
		}
	}
}

// BU2: rows, behind one byte that is written: the bytes, or the fault.
func TestRow(t *testing.T) {
	for _, c := range []struct {
		room int
		w    []int
		nums []uint64
		want []byte
		err  api.Errno
	}{
		{5, []int{2, -1, 1}, []uint64{258, 3}, []byte{1, 2, 0, 3}, api.OK},
		{1, nil, nil, nil, api.OK},
		{3, []int{-2}, nil, []byte{0, 0}, api.OK},
		{17, []int{8, 8}, []uint64{math.MaxUint64, math.MaxUint64}, slices.Repeat([]byte{255}, 16), api.OK},
		{66, []int{-64, 1}, []uint64{5}, append(make([]byte, 64), 5), api.OK},
		{65, slices.Repeat([]int{1}, 64), slices.Repeat([]uint64{3}, 64), slices.Repeat([]byte{3}, 64), api.OK},
		{4, []int{2, -1, 1}, []uint64{258, 3}, nil, api.ErrLong},
		{1, []int{-1}, nil, nil, api.ErrLong},
		{64, slices.Repeat([]int{1}, 64), slices.Repeat([]uint64{3}, 64), nil, api.ErrLong},
		{9, []int{2, -1, 1}, []uint64{258}, nil, api.ErrArg},
		{9, []int{2, -1, 1}, []uint64{258, 3, 0}, nil, api.ErrArg},
		{9, []int{2, -1, 1}, nil, nil, api.ErrArg},
		{9, nil, []uint64{0}, nil, api.ErrArg},
		{9, []int{2, 1}, []uint64{65536, 1}, nil, api.ErrArg},
		{9, []int{2, 1}, []uint64{1, 256}, nil, api.ErrArg},
		{9, []int{0}, []uint64{0}, nil, api.ErrArg},
		{9, []int{0}, nil, nil, api.ErrArg},
		{99, []int{9}, []uint64{1}, nil, api.ErrArg},
		{99, []int{-65}, nil, nil, api.ErrArg},
		{99, slices.Repeat([]int{1}, 65), make([]uint64, 65), nil, api.ErrArg},
		{1, []int{1}, []uint64{256}, nil, api.ErrArg},
		{1, []int{1, 0}, []uint64{1, 1}, nil, api.ErrArg},
	} {
		b := New(c.room)
		b.Num(1, 77)
		b.Row(c.w, c.nums...)
		if c.err == api.OK {
			stands(t, "Row", b, append([]byte{77}, c.want...)...)
			continue
		}
		fails(t, "Row", b, c.err, 1)
		writesNothing(t, "Row", b)
	}
}

// BU2: of all bytes as many zeros as it takes to a multiple of each step that may be, and none where it is one.
func TestEven(t *testing.T) {
	for step := 1; step <= 64; step++ {
		for n := range 2*step + 2 {
			want := count(n)
			for len(want)%step != 0 {
				want = append(want, 0)
			}
			b := New(len(want))
			b.Bytes(count(n))
			b.Even(step)
			stands(t, "Even", b, want...)
			b.Even(step)
			stands(t, "Even twice", b, want...)
			if len(want) == n {
				continue
			}
			b = New(len(want) - 1)
			b.Bytes(count(n))
			b.Even(step)
			fails(t, "Even without room", b, api.ErrLong, n)
			writesNothing(t, "Even without room", b)
		}
	}
}

// BU2: a step that may not be is ErrArg, whatever is written, and whatever room is left.
func TestEvenStep(t *testing.T) {
	for _, step := range []int{math.MinInt, -64, -8, -1, 0, 65, 128, math.MaxInt} {
		for _, n := range []int{0, 1, 64} {
			for _, left := range []int{0, 200} {
				b := New(n + left)
				b.Bytes(count(n))
				b.Even(step)
				fails(t, "no step", b, api.ErrArg, n)
				writesNothing(t, "no step", b)
			}
		}
	}
}

// BU3: zeros are held at the place of the first of them, of each width, and are written over by the number, the highest byte first.
func TestHold(t *testing.T) {
	for width := 1; width <= 8; width++ {
		for ahead := range 4 {
			n := uint64(0x0102030405060708) >> (64 - 8*width)
			b := New(ahead + width + 1)
			b.Bytes(slices.Repeat([]byte{50}, ahead))
			if at := b.Hold(width); at != ahead {
				t.Errorf("Hold(%d) behind %d: %d", width, ahead, at)
			}
			fails(t, "held", b, api.ErrArg, ahead+width)
			b.Num(1, 60)
			fails(t, "held", b, api.ErrArg, ahead+width+1)
			b.Fill(ahead, n)
			want := append(slices.Repeat([]byte{50}, ahead), count(8)[:width]...)
			stands(t, "filled", b, append(want, 60)...)
		}
	}
}

// BU3: what is held is zeros, with the least and the greatest number that has room.
func TestFillEdges(t *testing.T) {
	for width := 1; width <= 8; width++ {
		b := New(8)
		b.Fill(b.Hold(width), 0)
		stands(t, "the least", b, make([]byte, width)...)
		b = New(8)
		b.Fill(b.Hold(width), math.MaxUint64>>(64-8*width))
		stands(t, "the greatest", b, slices.Repeat([]byte{255}, width)...)
		if width == 8 {
			continue
		}
		b = New(8)
		b.Fill(b.Hold(width), 1<<(8*width))
		fails(t, "too great", b, api.ErrArg, width)
		writesNothing(t, "too great", b)
	}
}

// BU3: a width that may not be is ErrArg, whether there is room or not.
func TestHoldWidth(t *testing.T) {
	for _, width := range []int{math.MinInt, -8, -1, 0, 9, 64, math.MaxInt} {
		for _, room := range []int{2, 100} {
			b := New(room)
			b.Num(2, 1)
			if at := b.Hold(width); at != 0 {
				t.Errorf("Hold(%d): %d", width, at)
			}
			fails(t, "no width", b, api.ErrArg, 2)
			writesNothing(t, "no width", b)
		}
	}
}

// BU3: without room nothing is held.
func TestHoldLong(t *testing.T) {
	for width := 1; width <= 8; width++ {
		b := New(2 + width - 1)
		b.Num(2, 1)
		if at := b.Hold(width); at != 0 {
			t.Errorf("Hold(%d): %d", width, at)
		}
		fails(t, "no room", b, api.ErrLong, 2)
		writesNothing(t, "no room", b)
	}
}

// BU3: where none are held, or not any more, or not from there on, it is ErrArg.
func TestFillNone(t *testing.T) {
	for _, at := range []int{math.MinInt, -1, 0, 1, 3, 4, 5, 6, 7, 100, math.MaxInt} {
		b := New(100)
		b.Num(2, 1)
		b.Hold(2)
		b.Hold(1)
		b.Fill(4, 9)
		b.Fill(at, 0)
		fails(t, "none is held there", b, api.ErrArg, 5)
		writesNothing(t, "none is held there", b)
	}
	b := New(100)
	b.Fill(b.Hold(2), 1)
	b.Fill(0, 2)
	fails(t, "filled twice", b, api.ErrArg, 2)
	b = New(100)
	b.Num(2, 1)
	b.Fill(0, 2)
	fails(t, "never held", b, api.ErrArg, 2)
}

// BU3: many are held at once, and filled in any order, each by its own number alone.
func TestHoldMany(t *testing.T) {
	for _, order := range [][]int{{0, 1, 2}, {0, 2, 1}, {1, 0, 2}, {1, 2, 0}, {2, 0, 1}, {2, 1, 0}} {
		b := New(7)
		places := []int{b.Hold(2), b.Hold(1), b.Hold(3)}
		if !slices.Equal(places, []int{0, 2, 3}) {
			t.Fatalf("places: %v", places)
		}
		b.Num(1, 5)
		for _, i := range order {
			fails(t, "something is held", b, api.ErrArg, 7)
			b.Fill(places[i], uint64(i)+1)
		}
		stands(t, "filled", b, 0, 1, 2, 0, 0, 3, 5)
	}
}

// BU3: Fill needs no room: what is held has it.
func TestFillAtTheEnd(t *testing.T) {
	b := New(4)
	b.Fill(b.Hold(4), 0x01020304)
	stands(t, "all is full", b, 1, 2, 3, 4)
}

// BU4: the first fault holds; OK is none.
func TestFail(t *testing.T) {
	b := New(9)
	b.Num(1, 1)
	b.Fail(api.OK)
	b.Num(1, 2)
	stands(t, "OK", b, 1, 2)
	for _, e := range []api.Errno{api.BadTable, api.HelloNone, api.ErrScript, -5, math.MaxInt} {
		b = New(9)
		b.Num(2, 258)
		b.Fail(e)
		fails(t, "Fail", b, e, 2)
		writesNothing(t, "Fail", b)
		b.Fail(api.BadPort)
		b.Fail(api.OK)
		fails(t, "Fail twice", b, e, 2)
	}
}

// BU4: each kind of fault stays, whatever comes behind it.
func TestFirstFaultHolds(t *testing.T) {
	faults := []struct {
		err api.Errno
		do  func(b *Buffer)
	}{
		{api.ErrLong, func(b *Buffer) { b.Bytes(make([]byte, 9)) }},
		{api.ErrArg, func(b *Buffer) { b.Num(9, 1) }},
		{api.ErrArg, func(b *Buffer) { b.Even(0) }},
		{api.ErrArg, func(b *Buffer) { b.Hold(0) }},
		{api.ErrArg, func(b *Buffer) { b.Fill(0, 1) }},
		{api.BadTable, func(b *Buffer) { b.Fail(api.BadTable) }},
	}
	for _, first := range faults {
		for _, other := range faults {
			b := New(4)
			b.Num(1, 1)
			first.do(b)
			other.do(b)
			fails(t, "two faults", b, first.err, 1)
			writesNothing(t, "two faults", b)
		}
	}
}

// BU4: a fault is told ahead of what is held, and what is held is not filled any more.
func TestFaultAheadOfHeld(t *testing.T) {
	b := New(4)
	at := b.Hold(2)
	b.Bytes(make([]byte, 3))
	fails(t, "a fault, and something is held", b, api.ErrLong, 2)
	b.Fill(at, 1)
	fails(t, "a fault, and something is held", b, api.ErrLong, 2)
}

// BU4: Done ends nothing: it is told as often as it is asked, and writing goes on.
func TestDoneAgain(t *testing.T) {
	b := New(5)
	b.Num(2, 258)
	stands(t, "Done", b, 1, 2)
	stands(t, "Done again", b, 1, 2)
	at := b.Hold(1)
	fails(t, "held", b, api.ErrArg, 3)
	b.Fill(at, 3)
	b.Bytes([]byte{4, 5})
	stands(t, "Done behind more", b, 1, 2, 3, 4, 5)
}

// BU4, rule 5: what Done tells is new memory, and what is handed in is neither changed nor kept.
func TestMemory(t *testing.T) {
	b := New(20)
	x := count(4)
	w, nums := []int{1, 2, 0}, []uint64{8, 9, 10}
	b.Bytes(x[:3])
	b.Row(w[:2], nums[:2]...)
	at := b.Hold(1)
	b.Fill(at, 7)
	if !slices.Equal(x, count(4)) || !slices.Equal(w, []int{1, 2, 0}) || !slices.Equal(nums, []uint64{8, 9, 10}) {
		t.Errorf("what was handed in has changed: %v, %v, %v", x, w, nums)
	}
	x[0], w[0], nums[0] = 99, 99, 99
	stands(t, "what is handed in changes", b, 1, 2, 3, 8, 0, 9, 7)
	first, _ := b.Done()
	second, _ := b.Done()
	first[0] = 98
	_ = append(first, 97)
	if second[0] != 1 {
		t.Errorf("two answers share memory")
	}
	b.Num(1, 6)
	stands(t, "an answer changes", b, 1, 2, 3, 8, 0, 9, 7, 6)
}

// Rule 5: what is written first doesn't become the buffer's own memory.
func TestFirstBytesAreCopied(t *testing.T) {
	x := make([]byte, 2, 8)
	b := New(8)
	b.Bytes(x)
	b.Bytes([]byte{5})
	if x[:3][2] != 0 {
		t.Errorf("behind what was handed in was written: %v", x[:3])
	}
	x[0] = 9
	stands(t, "copied", b, 0, 0, 5)
}

// Rule 4: what lies behind a list's length is neither read nor handed out.
func TestLengths(t *testing.T) {
	b := New(20)
	b.Bytes(count(8)[:3])
	b.Bytes(count(8)[:2])
	b.Row([]int{1, 2, 3}[:1], []uint64{6, 7, 8}[:1]...)
	b.Hold(8)
	b.Fill(6, math.MaxUint64)
	got, _ := b.Done()
	for _, x := range got[len(got):cap(got)] {
		if x != 0 {
			t.Errorf("behind %v lies %v", got, got[len(got):cap(got)])
		}
	}
	stands(t, "lengths", b, 1, 2, 3, 1, 2, 6, 255, 255, 255, 255, 255, 255, 255, 255)
}

// Two buffers have nothing in common.
func TestTwoBuffers(t *testing.T) {
	a, b := New(4), New(4)
	a.Num(1, 1)
	a.Hold(1)
	b.Num(2, 515)
	b.Fill(1, 1)
	fails(t, "the one", b, api.ErrArg, 2)
	a.Fill(1, 9)
	stands(t, "the other", a, 1, 9)
}

// model is what a buffer should be, told as plainly as can be: the room, the bytes, for each byte the width that is held from it on, and the fault.
type model struct {
	room int
	all  []byte
	held []int
	err  api.Errno
}

func (m *model) fail(e api.Errno) {
	if m.err == api.OK {
		m.err = e
	}
}

func (m *model) bytes(x []byte) {
	if m.err != api.OK {
		return
	}
	if len(m.all)+len(x) > m.room {
		m.err = api.ErrLong
		return
	}
	for _, one := range x {
		m.all = append(m.all, one)
		m.held = append(m.held, 0)
	}
}

func (m *model) row(w []int, nums []uint64) {
	x, ok := row.Put(w, nums)
	if !ok {
		m.fail(api.ErrArg)
		return
	}
	m.bytes(x)
}

func (m *model) even(step int) {
	if step < 1 || step > 64 {
		m.fail(api.ErrArg)
		return
	}
	n := 0
	for (len(m.all)+n)%step != 0 {
		n++
	}
	m.bytes(make([]byte, n))
}

func (m *model) hold(width int) int {
	at := len(m.all)
	if width < 1 || width > 8 {
		m.fail(api.ErrArg)
		return 0
	}
	m.bytes(make([]byte, width))
	if m.err != api.OK {
		return 0
	}
	m.held[at] = width
	return at
}

func (m *model) fill(at int, n uint64) {
	if m.err != api.OK {
		return
	}
	if at < 0 || at >= len(m.held) || m.held[at] == 0 {
		m.err = api.ErrArg
		return
	}
	width := m.held[at]
	if width < 8 && n>>(8*width) != 0 {
		m.err = api.ErrArg
		return
	}
	for i := range width {
		m.all[at+i] = byte(n >> (8 * (width - 1 - i)))
	}
	m.held[at] = 0
}

func (m *model) done() ([]byte, api.Errno) {
	if m.err != api.OK {
		return nil, m.err
	}
	for _, width := range m.held {
		if width > 0 {
			return nil, api.ErrArg
		}
	}
	return m.all, api.OK
}

// step has a buffer and its model do one thing, and holds them against one another.
func step(t *testing.T, b *Buffer, m *model, what, x, y byte) {
	t.Helper()
	n := uint64(y)
	if x&128 != 0 {
		n *= 0x0123456789abcd
	}
	k := int(x&127) - 2
	switch what % 7 {
	case 0:
		b.Num(k, n)
		m.row([]int{k}, []uint64{n})
	case 1:
		w := []int{int(int8(x)) % 10, int(int8(y)) % 10}
		nums := []uint64{uint64(x), n}[:x%3]
		b.Row(w, nums...)
		m.row(w, nums)
	case 2:
		b.Bytes(count(int(x % 16)))
		m.bytes(count(int(x % 16)))
	case 3:
		b.Even(k)
		m.even(k)
	case 4:
		if at, want := b.Hold(k%12), m.hold(k%12); at != want {
			t.Fatalf("Hold(%d): %d, not %d", k%12, at, want)
		}
	case 5:
		b.Fill(k, n)
		m.fill(k, n)
	case 6:
		b.Fail(api.Errno(x % 4))
		m.fail(api.Errno(x % 4))
	}
	got, err := b.Done()
	want, wantErr := m.done()
	if err != wantErr || !slices.Equal(got, want) || b.Len() != len(m.all) || b.Len() > m.room {
		t.Fatalf("Done %v, %d, Len %d; not %v, %d, %d", got, err, b.Len(), want, wantErr, len(m.all))
	}
}

// BU5: a buffer is held against its model, over whatever is written.
func FuzzModel(f *testing.F) {
	f.Add(uint8(30), []byte{4, 4, 0, 0, 3, 7, 5, 2, 3})
	f.Add(uint8(9), []byte{2, 3, 0, 3, 10, 0, 1, 5, 6, 0, 3, 200, 3, 10, 0})
	f.Add(uint8(200), []byte{0, 130, 1, 4, 10, 0, 3, 66, 0, 5, 3, 9, 4, 3, 0, 5, 67, 255, 6, 0, 0, 6, 3, 0, 2, 15, 0})
	f.Add(uint8(3), []byte{4, 5, 0, 4, 3, 0, 5, 2, 2})
	f.Fuzz(func(t *testing.T, room uint8, steps []byte) {
		b, m := New(int(room)), &model{room: int(room)}
		for ; len(steps) >= 3; steps = steps[3:] {
			step(t, b, m, steps[0], steps[1], steps[2])
		}
	})
}

// BU5: the same over a long row of steps that is always the same one.
func TestModel(t *testing.T) {
	state := uint32(1)
	next := func() byte {
		state = state*1664525 + 1013904223
		return byte(state >> 24)
	}
	for range 4000 {
		room := int(next())
		b, m := New(room), &model{room: room}
		for range 12 {
			what, x, y := next(), next(), next()
			// Behind a fault nothing comes: let the greater part of widths, steps and places be such that may be.
			if next()%8 != 0 {
				x = x&128 + x%11
			}
			step(t, b, m, what, x, y)
		}
	}
}
