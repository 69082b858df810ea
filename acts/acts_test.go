package acts

import (
	"math"
	"math/rand"
	"slices"
	"testing"

	"gunwale/action"
	"gunwale/api"
	"gunwale/buffer"
	"gunwale/cursor"
)

// basic is a value without a mask.
func basic(n int, value ...byte) api.Oxm {
	return api.Oxm{Class: api.Basic, Field: n, Value: value}
}

// act is an action with numbers alone.
func act(kind int, a, b uint64) api.Act { return api.Act{Type: kind, A: a, B: b} }

// set is an action that sets a field.
func set(o api.Oxm) api.Act { return api.Act{Type: action.SetField, Set: o} }

// own is an experimenter's action.
func own(a uint64, data ...byte) api.Act {
	return api.Act{Type: action.Experiment, A: a, Data: data}
}

// long is an experimenter's action of so many bytes, a multiple of 8 that is not 0.
func long(n int) api.Act { return own(7, slices.Repeat([]byte{byte(n / 8)}, n-8)...) }

// out is an output to a port.
func out(port uint64) api.Act { return act(action.Output, port, 0) }

// few is a list of three actions.
func few() []api.Act {
	return []api.Act{act(action.PopVlan, 0, 0), set(basic(3, 1, 2, 3, 4, 5, 6)), out(3)}
}

// times is a list of so many actions, no two of which are the same.
func times(n int) []api.Act {
	var l []api.Act
	for i := range n {
		l = append(l, act(action.SetQueue, uint64(i), 0))
	}
	return l
}

// equalOne holds two actions against one another without action's Same.
func equalOne(a, b api.Act) bool {
	return a.Type == b.Type && a.A == b.A && a.B == b.B && slices.Equal(a.Data, b.Data) &&
		a.Set.Class == b.Set.Class && a.Set.Field == b.Set.Field && a.Set.Has == b.Set.Has && a.Set.Exp == b.Set.Exp && slices.Equal(a.Set.Value, b.Set.Value) && slices.Equal(a.Set.Mask, b.Set.Mask)
}

// equal holds two lists against one another without Same.
func equal(a, b []api.Act) bool { return slices.EqualFunc(a, b, equalOne) }

// lists are all lists of the actions.
func lists(l []api.Act) [][]byte {
	var all [][]byte
	for _, a := range l {
		all = append(all, a.Set.Value, a.Set.Mask, a.Data)
	}
	return all
}

// clone is a copy of a list without Copy.
func clone(l []api.Act) []api.Act {
	c := slices.Clone(l)
	for i, a := range c {
		c[i].Set.Value, c[i].Set.Mask, c[i].Data = slices.Clone(a.Set.Value), slices.Clone(a.Set.Mask), slices.Clone(a.Data)
	}
	return c
}

// flip changes all bits.
func flip(b []byte) {
	for i := range b {
		b[i] ^= 255
	}
}

// spoil changes all bytes of the actions' lists, and what lies behind them and the list in memory.
func spoil(l []api.Act) {
	for _, b := range lists(l) {
		flip(b[:cap(b)])
	}
	l = l[:cap(l)]
	for i := range l {
		l[i].Type, l[i].A, l[i].B, l[i].Set.Class, l[i].Set.Exp = -7, 77, 77, -7, 77
	}
}

// plain is the actions' bytes, one behind the other.
func plain(l []api.Act) []byte {
	var b []byte
	for _, a := range l {
		x, _ := action.Encode(a)
		b = append(b, x...)
	}
	return b
}

// mayBe is Right, told as the chapter words it.
func mayBe(l []api.Act) bool {
	return len(l) <= 64 && !slices.ContainsFunc(l, func(a api.Act) bool { return !action.Right(a) }) && len(plain(l)) <= 65528
}

// decoded is Decode, told clause by clause as the chapter lists them.
func decoded(b []byte) ([]api.Act, api.Errno) {
	var l []api.Act
	for left := b; len(left) > 0; {
		if len(l) >= 64 {
			return nil, api.ActMany
		}
		a, n, e := action.Decode(left)
		if e != api.OK {
			return nil, e
		}
		l, left = append(l, a), left[n:]
	}
	if len(b) > 65528 {
		return nil, api.ActLen
	}
	return l, api.OK
}

// short tells bytes, or of many the first ones and how many there are.
func short(b []byte) (first []byte, n int) { return b[:min(len(b), 40)], len(b) }

// right asks for a list that may be: its bytes, and, of these, for itself; and that none of this changes what is handed in.
func right(t *testing.T, l []api.Act) {
	t.Helper()
	was, want := clone(l), plain(l)
	if !Right(l) || Size(l) != len(want) {
		t.Errorf("Right of %d: %v, of the size %d, not %d", len(l), Right(l), Size(l), len(want))
	}
	if b, e := Encode(l); e != api.OK || !slices.Equal(b, want) {
		t.Errorf("Encode of %d: %d bytes, %d; not %d", len(l), len(b), e, len(want))
	}
	put(t, l, want, api.OK)
	got(t, want, was)
	same(t, l, was)
}

// wrongOne asks for a list that may not be.
func wrongOne(t *testing.T, l []api.Act) {
	t.Helper()
	was := clone(l)
	if Right(l) || Size(l) != 0 {
		t.Errorf("Right of %v: %v, of the size %d", l, Right(l), Size(l))
	}
	if b, e := Encode(l); e != api.ErrArg || len(b) != 0 {
		t.Errorf("Encode of %v: %v, %d", l, b, e)
	}
	put(t, l, nil, api.ErrArg)
	same(t, l, was)
}

// same asks for a copy, and that a list is still what it was.
func same(t *testing.T, l, was []api.Act) {
	t.Helper()
	if c := Copy(l); !equal(c, was) || !Same(c, l) || !Same(l, c) {
		t.Errorf("Copy of %v: %v", l, c)
	}
	if p := Ports(l); !slices.Equal(p, portsOf(l)) {
		t.Errorf("Ports of %v: %v", l, p)
	}
	if !equal(l, was) {
		t.Errorf("%v was changed to %v", was, l)
	}
}

// portsOf is Ports, told without a map.
func portsOf(l []api.Act) []uint64 {
	var p []uint64
	for _, a := range l {
		if a.Type == 0 {
			p = append(p, a.A)
		}
	}
	slices.Sort(p)
	return slices.Compact(p)
}

// asked asks for a list, which may be or not.
func asked(t *testing.T, l []api.Act, may bool) {
	t.Helper()
	if may {
		right(t, l)
	} else {
		wrongOne(t, l)
	}
}

// put asks Put to write a list behind three bytes.
func put(t *testing.T, l []api.Act, want []byte, wantE api.Errno) {
	t.Helper()
	b := buffer.New(100000)
	b.Bytes([]byte{7, 8, 9})
	Put(b, l)
	if b.Len() != 3+len(want) {
		t.Errorf("Put of %d: %d bytes, not %d", len(l), b.Len()-3, len(want))
	}
	all, e := b.Done()
	if e != wantE || e == api.OK && !slices.Equal(all, append([]byte{7, 8, 9}, want...)) {
		t.Errorf("Put of %d: %d bytes, %d; not %d, %d", len(l), len(all), e, len(want), wantE)
	}
}

// behind is a cursor that has read three bytes ahead of those.
func behind(b []byte) *cursor.Cursor {
	c := cursor.New(append([]byte{0, 0, 0}, b...), api.ErrShort, api.ErrState)
	c.Bytes(3)
	return c
}

// got asks Decode and Take for a list; Take whatever is behind.
func got(t *testing.T, b []byte, want []api.Act) {
	t.Helper()
	was := slices.Clone(b)
	if l, e := Decode(b); e != api.OK || !equal(l, want) {
		first, n := short(b)
		t.Errorf("Decode of %v (%d): %v, %d; not %v", first, n, l, e, want)
	}
	if !slices.Equal(b, was) {
		first, n := short(was)
		t.Errorf("Decode changed %v (%d)", first, n)
	}
	for _, more := range [][]byte{nil, {0}, {255}, {0, 11, 0, 8, 0, 0, 0, 0}} {
		c := behind(slices.Concat(b, more))
		if l := Take(c, len(b)); c.Err() != api.OK || c.At() != 3+len(b) || c.Left() != len(more) || !equal(l, want) {
			first, n := short(b)
			t.Errorf("Take of %v (%d): %v, %d, at %d, %d left; not %v", first, n, l, c.Err(), c.At(), c.Left(), want)
		}
		if rest := c.Rest(); !slices.Equal(rest, more) {
			t.Errorf("Take leaves %v, not %v", rest, more)
		}
	}
}

// notGot asks Decode and Take for an error, and nothing beside it.
func notGot(t *testing.T, b []byte, want api.Errno) {
	t.Helper()
	first, n := short(b)
	was := slices.Clone(b)
	if l, e := Decode(b); e != want || len(l) != 0 {
		t.Errorf("Decode of %v (%d): %v, %d; not %d", first, n, l, e, want)
	}
	if !slices.Equal(b, was) {
		t.Errorf("Decode changed %v (%d)", first, n)
	}
	for _, more := range [][]byte{nil, {0}, plain(few())} {
		c := behind(slices.Concat(b, more))
		if l := Take(c, len(b)); c.Err() != want || c.At() != 3 || c.Left() != len(b)+len(more) || len(l) != 0 {
			t.Errorf("Take of %v (%d): %v, %d, at %d, %d left; not %d", first, n, l, c.Err(), c.At(), c.Left(), want)
		}
	}
}

// held asks Decode for what the chapter's clauses tell of bytes; what is decoded may be, and is those bytes.
func held(t *testing.T, b []byte) {
	t.Helper()
	l, e := decoded(b)
	if e != api.OK {
		notGot(t, b, e)
		return
	}
	got(t, b, l)
	again, e := Encode(l)
	if !Right(l) || Size(l) != len(b) || e != api.OK || !slices.Equal(again, b) {
		first, n := short(b)
		t.Errorf("Encode of what %v (%d) is: %d bytes, %d", first, n, len(again), e)
	}
}

// The chapter's example.
func TestExample(t *testing.T) {
	for _, l := range [][]api.Act{nil, {}, few()[:0]} {
		right(t, l)
		if Size(l) != 0 || !Right(l) {
			t.Errorf("Size of nothing: %d, %v", Size(l), Right(l))
		}
		if b, e := Encode(l); e != api.OK || len(b) != 0 {
			t.Errorf("Encode of nothing: %v, %d", b, e)
		}
	}
	for _, b := range [][]byte{nil, {}, plain(few())[:0]} {
		if l, e := Decode(b); e != api.OK || len(l) != 0 {
			t.Errorf("Decode of nothing: %v, %d", l, e)
		}
		held(t, b)
	}
}

// AL1, AL2: bytes spelt out, both ways.
func TestBytes(t *testing.T) {
	for _, x := range []struct {
		l []api.Act
		b []byte
	}{
		{[]api.Act{act(0, 0x01020304, 0x0506)}, []byte{0, 0, 0, 16, 1, 2, 3, 4, 5, 6, 0, 0, 0, 0, 0, 0}},
		{[]api.Act{act(18, 0, 0), act(17, 33024, 0)}, []byte{0, 18, 0, 8, 0, 0, 0, 0, 0, 17, 0, 8, 129, 0, 0, 0}},
		{[]api.Act{act(17, 33024, 0), act(18, 0, 0)}, []byte{0, 17, 0, 8, 129, 0, 0, 0, 0, 18, 0, 8, 0, 0, 0, 0}},
		{[]api.Act{act(22, 7, 0), act(22, 7, 0)}, []byte{0, 22, 0, 8, 0, 0, 0, 7, 0, 22, 0, 8, 0, 0, 0, 7}},
		{few(), []byte{0, 18, 0, 8, 0, 0, 0, 0, 0, 25, 0, 16, 128, 0, 6, 6, 1, 2, 3, 4, 5, 6, 0, 0, 0, 0, 0, 16, 0, 0, 0, 3, 0, 0, 0, 0, 0, 0, 0, 0}},
		{[]api.Act{own(9, 1, 2, 3, 4, 5, 6, 7, 8), own(9)}, []byte{255, 255, 0, 16, 0, 0, 0, 9, 1, 2, 3, 4, 5, 6, 7, 8, 255, 255, 0, 8, 0, 0, 0, 9}},
	} {
		if b, e := Encode(x.l); e != api.OK || !slices.Equal(b, x.b) {
			t.Errorf("Encode of %v: %v, %d; not %v", x.l, b, e, x.b)
		}
		if n := Size(x.l); n != len(x.b) {
			t.Errorf("Size of %v: %d, not %d", x.l, n, len(x.b))
		}
		if l, e := Decode(x.b); e != api.OK || !equal(l, x.l) {
			t.Errorf("Decode of %v: %v, %d; not %v", x.b, l, e, x.l)
		}
		right(t, x.l)
	}
}

// wrongActs are actions that may not be.
func wrongActs() []api.Act {
	return []api.Act{{}, out(0), out(1 << 32), act(action.Output, 1, 65536), act(1, 0, 0), act(-1, 0, 0), act(28, 0, 0), act(65536, 1, 0), act(1<<32, 1, 0), act(action.PopVlan, 1, 0), act(action.Group, 4294967041, 0), act(action.SetTtl, 256, 0),
		act(action.PushVlan, 0, 0), act(action.PushMpls, 33024, 0), act(action.SetField, 0, 0), set(basic(0, 0, 0, 0, 1)), set(basic(3, 1)), set(api.Oxm{Class: api.Basic, Field: 3, Has: true, Value: make([]byte, 6), Mask: slices.Repeat([]byte{1}, 6)}),
		own(1, 1), own(1, make([]byte, 65528)...), own(1<<32, 1, 2, 3, 4, 5, 6, 7, 8), {Type: action.Group, Data: []byte{0}}, {Type: action.Group, Set: api.Oxm{Has: true}}}
}

// AL1: an action that may not be makes no list, wherever it stands.
func TestWrongActions(t *testing.T) {
	for _, a := range wrongActs() {
		wrongOne(t, []api.Act{a})
		wrongOne(t, []api.Act{a, a})
		for i := range 4 {
			wrongOne(t, slices.Insert(few(), i, a))
		}
		for _, i := range []int{0, 31, 62, 63} {
			wrongOne(t, slices.Insert(times(63), i, a))
		}
	}
}

// AL1, AL2: 64 actions may be, and no more.
func TestMost(t *testing.T) {
	for n := range 130 {
		l := times(n)
		asked(t, l, n <= 64)
		want := api.OK
		if n > 64 {
			want = api.ActMany
		}
		if x, e := Decode(plain(l)); e != want || e == api.OK && !equal(x, l) || e != api.OK && len(x) != 0 {
			t.Errorf("Decode of %d: %v, %d", n, x, e)
		}
		held(t, plain(l))
	}
	for _, n := range []int{64, 65} {
		l := slices.Repeat([]api.Act{act(action.PopVlan, 0, 0)}, n)
		asked(t, l, n == 64)
		held(t, plain(l))
	}
	l := times(100000)
	if Right(l) || Size(l) != 0 {
		t.Errorf("Right of %d", len(l))
	}
	if _, e := Decode(plain(l)); e != api.ActMany {
		t.Errorf("Decode of %d: %d", len(l), e)
	}
}

// AL1, AL2: together they have 65528 bytes at most.
func TestLongest(t *testing.T) {
	for _, x := range []struct {
		l    []api.Act
		want bool
	}{
		{[]api.Act{long(65528)}, true}, {[]api.Act{long(65520), out(1)}, false}, {[]api.Act{long(65512), out(1)}, true}, {[]api.Act{out(1), long(65512)}, true}, {[]api.Act{out(1), long(65520)}, false},
		{[]api.Act{long(65520), act(action.PopVlan, 0, 0)}, true}, {[]api.Act{long(65528), act(action.PopVlan, 0, 0)}, false}, {[]api.Act{act(action.PopVlan, 0, 0), long(65528)}, false},
		{[]api.Act{long(32768), long(32760)}, true}, {[]api.Act{long(32768), long(32768)}, false}, {[]api.Act{long(65528), long(65528)}, false}, {[]api.Act{long(65528), long(8)}, false}, {[]api.Act{long(65520), long(16)}, false},
		{append(times(63), long(65528-63*8)), true}, {append(times(63), long(65536-63*8)), false}, {append([]api.Act{long(65536 - 63*8)}, times(63)...), false}, {slices.Repeat([]api.Act{long(1024)}, 63), true}, {slices.Repeat([]api.Act{long(1024)}, 64), false},
		{append(slices.Repeat([]api.Act{long(1024)}, 63), long(1016)), true}, {slices.Repeat([]api.Act{long(65528)}, 64), false},
	} {
		if mayBe(x.l) != x.want {
			t.Errorf("mayBe of %d bytes: %v", len(plain(x.l)), !x.want)
		}
		if Right(x.l) != x.want || Size(x.l) != 0 != x.want {
			t.Errorf("Right of %d bytes: %v, %d", len(plain(x.l)), !x.want, Size(x.l))
		}
		b, e := Encode(x.l)
		if (e == api.OK) != x.want || (len(b) != 0) != x.want || !x.want && e != api.ErrArg {
			t.Errorf("Encode of %d bytes: %d, %d", len(plain(x.l)), len(b), e)
		}
		if x.want {
			right(t, x.l)
			continue
		}
		if l, e := Decode(plain(x.l)); e != api.ActLen || len(l) != 0 {
			t.Errorf("Decode of %d bytes: %d", len(plain(x.l)), e)
		}
		notGot(t, plain(x.l), api.ActLen)
	}
}

// AL2: of several errors the one that is named first.
func TestDecodeErrors(t *testing.T) {
	pop := []byte{0, 18, 0, 8, 0, 0, 0, 0}
	for _, x := range []struct {
		b    []byte
		want api.Errno
	}{
		// Layer 12's errors.
		{[]byte{0}, api.ActLen}, {[]byte{0, 18, 0, 8}, api.ActLen}, {pop[:7], api.ActLen}, {[]byte{0, 18, 0, 0, 0, 0, 0, 0}, api.ActLen}, {[]byte{0, 1, 0, 8, 0, 0, 0, 0}, api.ActType}, {[]byte{0, 18, 0, 8, 0, 0, 0, 1}, api.ActArg},
		{[]byte{0, 0, 0, 16, 0, 0, 0, 0, 0, 0, 0, 0, 0, 0, 0, 0}, api.ActPort}, {[]byte{0, 22, 0, 8, 255, 255, 255, 255}, api.ActGroup}, {[]byte{0, 25, 0, 8, 128, 0, 6, 6}, api.SetLen}, {[]byte{0, 25, 0, 16, 128, 0, 0, 4, 0, 0, 0, 1, 0, 0, 0, 0}, api.SetType}, {[]byte{0, 25, 0, 16, 128, 0, 14, 1, 8, 0, 0, 0, 0, 0, 0, 0}, api.SetArg},
		// Behind actions that may be, to the end: what is left over is too few.
		{slices.Concat(pop, []byte{0}), api.ActLen}, {slices.Concat(pop, pop[:7]), api.ActLen}, {slices.Concat(pop, pop, []byte{0, 1, 0, 8, 0, 0, 0, 0}), api.ActType}, {slices.Concat(pop, make([]byte, 8)), api.ActLen},
		// A length that goes on behind the end, and one that does so no more.
		{slices.Concat([]byte{0, 18, 0, 16, 0, 0, 0, 0}, pop), api.ActLen}, {slices.Concat([]byte{255, 255, 0, 24, 0, 0, 0, 0}, pop), api.ActLen},
		// The first that is wrong, whatever is behind.
		{slices.Concat([]byte{0, 1, 0, 8, 0, 0, 0, 0}, []byte{0, 18, 0, 8, 0, 0, 0, 1}), api.ActType}, {slices.Concat([]byte{0, 18, 0, 8, 0, 0, 0, 1}, []byte{0, 1, 0, 8, 0, 0, 0, 0}), api.ActArg}, {slices.Concat([]byte{0, 18, 0, 8, 0, 0, 0, 1}, []byte{0}), api.ActArg},
		// Too many, ahead of what is wrong with what is left.
		{slices.Concat(slices.Repeat(pop, 64), []byte{0}), api.ActMany}, {slices.Concat(slices.Repeat(pop, 64), []byte{0, 1, 0, 8, 0, 0, 0, 0}), api.ActMany}, {slices.Concat(slices.Repeat(pop, 64), []byte{0, 18, 0, 8, 0, 0, 0, 1}), api.ActMany}, {slices.Concat(slices.Repeat(pop, 64), make([]byte, 70000)), api.ActMany},
		// But behind what is wrong with those that may be.
		{slices.Concat(slices.Repeat(pop, 63), []byte{0, 18, 0, 8, 0, 0, 0, 1}, pop), api.ActArg}, {slices.Concat(slices.Repeat(pop, 63), []byte{0, 1, 0, 8, 0, 0, 0, 0}, pop, pop), api.ActType}, {slices.Concat(slices.Repeat(pop, 63), []byte{0}), api.ActLen},
		// Too many bytes, behind all that.
		{slices.Concat(plain([]api.Act{long(65528)}), []byte{0, 1, 0, 8, 0, 0, 0, 0}), api.ActType}, {slices.Concat(plain([]api.Act{long(65528)}), []byte{0, 18, 0, 8, 0, 0, 0, 1}), api.ActArg}, {slices.Concat(plain([]api.Act{long(65528)}), pop), api.ActLen}, {slices.Concat(plain([]api.Act{long(65528)}), slices.Repeat(pop, 63)), api.ActLen},
		{slices.Concat(plain([]api.Act{long(65528)}), slices.Repeat(pop, 64)), api.ActMany}, {slices.Concat(plain([]api.Act{long(65528), long(65528)}), slices.Repeat(pop, 63)), api.ActMany}, {slices.Concat(plain([]api.Act{long(65528), long(65528)}), []byte{0, 22, 0, 8, 255, 255, 255, 255}), api.ActGroup},
	} {
		notGot(t, x.b, x.want)
		if _, e := decoded(x.b); e != x.want {
			first, n := short(x.b)
			t.Errorf("decoded of %v (%d): %d, not %d", first, n, e, x.want)
		}
	}
}

// samples are lists that may be.
func samples() [][]api.Act {
	return [][]api.Act{nil, few(), {out(1)}, {out(math.MaxUint32), out(1), out(7), out(1)}, {act(action.CopyIn, 0, 0), act(action.CopyOut, 0, 0), act(action.SetMplsTtl, 9, 0), act(action.DecMplsTtl, 0, 0)},
		{act(action.PushVlan, 34984, 0), set(basic(6, 16, 9)), act(action.PushMpls, 34888, 0), act(action.PopMpls, 2048, 0), act(action.SetTtl, 1, 0), act(action.DecTtl, 0, 0)},
		{act(action.PushPbb, 35047, 0), set(basic(37, 1, 2, 3)), act(action.PopPbb, 0, 0), act(action.Group, 7, 0), act(action.Output, 9, 65535)},
		{own(1, 1, 2, 3, 4, 5, 6, 7, 8), own(1), own(math.MaxUint32, make([]byte, 40)...), set(basic(38, 1, 2, 3, 4, 5, 6, 7, 8))}, times(64)}
}

// AL2, AL4: each change of one byte of a list's bytes, and each cut, is what the chapter's clauses tell.
func TestDecodeChanged(t *testing.T) {
	for _, l := range samples() {
		b := plain(l)
		ends := map[int]int{0: 0}
		for i := range l {
			ends[len(plain(l[:i+1]))] = i + 1
		}
		for i := range b {
			if n, ok := ends[i]; ok {
				got(t, b[:i], l[:n])
			} else {
				notGot(t, b[:i], api.ActLen)
			}
			held(t, b[i:])
			for _, x := range []byte{0, 1, 8, 16, 17, 18, 24, 25, 128, 254, 255} {
				changed := slices.Clone(b)
				changed[i] = x
				held(t, changed)
			}
		}
	}
}

// AL4: two lists, one behind the other, are their bytes so.
func TestOneBehindTheOther(t *testing.T) {
	for _, a := range samples() {
		for _, b := range samples() {
			both := slices.Concat(a, b)
			x, _ := Encode(a)
			y, _ := Encode(b)
			z, e := Encode(both)
			if len(both) > 64 {
				if e != api.ErrArg || Right(both) {
					t.Errorf("Encode of %d: %d", len(both), e)
				}
				continue
			}
			if e != api.OK || !slices.Equal(z, slices.Concat(x, y)) || Size(both) != Size(a)+Size(b) {
				t.Errorf("Encode of %v, %v: %v, %d", a, b, z, e)
			}
			if l, e := Decode(slices.Concat(x, y)); e != api.OK || !equal(l, both) {
				t.Errorf("Decode of %v, %v: %v, %d", a, b, l, e)
			}
			buf := buffer.New(100000)
			Put(buf, a)
			Put(buf, b)
			all, e := buf.Done()
			c := cursor.New(all, api.ErrShort, api.ErrState)
			if l, m := Take(c, Size(a)), Take(c, Size(b)); e != api.OK || !equal(l, a) || !equal(m, b) || c.Left() != 0 || c.Err() != api.OK {
				t.Errorf("Put and Take of %v, %v: %v, %v, %d, %d", a, b, l, m, e, c.Err())
			}
		}
	}
}

// AL3: all of it is written, or nothing, and then the fault is the first one.
func TestPut(t *testing.T) {
	want := plain(few())
	for room := range 60 {
		b := buffer.New(room)
		b.Num(1, 7)
		Put(b, few())
		Put(b, nil)
		Put(b, few()[:1])
		all, e := b.Done()
		switch {
		case room < 49 && (e != api.ErrLong || len(all) != 0):
			t.Errorf("room for %d: %v, %d", room, all, e)
		case room >= 49 && (e != api.OK || !slices.Equal(all, slices.Concat([]byte{7}, want, want[:8]))):
			t.Errorf("room for %d: %v, %d", room, all, e)
		}
	}
	// What may not be is ErrArg, even where there is no room, and a fault stays.
	for _, l := range [][]api.Act{{{}}, append(few(), out(0)), times(65), {long(65528), long(8)}} {
		for _, first := range []api.Errno{api.OK, api.BadLen, api.ErrLong} {
			b := buffer.New(0)
			b.Fail(first)
			Put(b, l)
			Put(b, few())
			if first == api.OK {
				first = api.ErrArg
			}
			if all, e := b.Done(); e != first || len(all) != 0 || b.Len() != 0 {
				t.Errorf("%v, %d, not %d; %d bytes", all, e, first, b.Len())
			}
		}
	}
	// What is held stays so, and what is written behind goes on.
	b := buffer.New(100)
	at := b.Hold(2)
	Put(b, few())
	b.Fill(at, uint64(b.Len()))
	if all, e := b.Done(); e != api.OK || !slices.Equal(all, append([]byte{0, 42}, want...)) {
		t.Errorf("behind what is held: %v, %d", all, e)
	}
}

// AL3: what is no buffer, or none that a call made, is not written to.
func TestPutNowhere(t *testing.T) {
	for _, l := range [][]api.Act{nil, few(), {{}}, times(65)} {
		Put(nil, l)
		b := &buffer.Buffer{}
		Put(b, l)
		if all, e := b.Done(); e != api.ErrArg || len(all) != 0 || b.Len() != 0 {
			t.Errorf("%v, %d", all, e)
		}
	}
}

// AL3: of what is no cursor, none that a call made, or has a fault, there is nothing, and the fault stays.
func TestTakeNothing(t *testing.T) {
	for _, n := range []int{math.MinInt, -1, 0, 1, 8, 40, math.MaxInt} {
		if l := Take(nil, n); len(l) != 0 {
			t.Errorf("Take of nil: %v", l)
		}
		c := &cursor.Cursor{}
		if l := Take(c, n); len(l) != 0 || c.Err() != api.ErrArg || c.At() != 0 || c.Left() != 0 {
			t.Errorf("Take of one that no call made: %v, %d", l, c.Err())
		}
		for _, first := range []api.Errno{api.ActLen, api.BadLen, api.ErrArg, api.ErrShort} {
			c := behind(plain(few()))
			c.Fail(first)
			if l := Take(c, n); len(l) != 0 || c.Err() != first || c.At() != 3 || c.Left() != 40 {
				t.Errorf("Take behind the fault %d: %v, %d, at %d", first, l, c.Err(), c.At())
			}
		}
	}
}

// AL3: just so many bytes are read; the cursor's own fault, if there are not so many, whatever they are.
func TestTake(t *testing.T) {
	l := few()
	ends := map[int]int{0: 0, 8: 1, 24: 2, 40: 3}
	for n := -2; n < 60; n++ {
		for _, fault := range []api.Errno{api.OK, api.BadLen, api.ErrState, api.ActLen} {
			c := cursor.New(plain(l), fault, api.BadPacket)
			x := Take(c, n)
			i, ok := ends[n]
			want := api.OK
			switch {
			case n < 0:
				want = api.ErrArg
			case n > 40:
				want = fault
			case !ok:
				want = api.ActLen
			}
			read := 0
			if ok {
				read = n
			}
			if !equal(x, l[:i]) || c.Err() != want || c.At() != read || c.Left() != 40-read {
				t.Errorf("Take of %d: %v, %d, at %d; not %d", n, x, c.Err(), c.At(), want)
			}
		}
	}
	for _, n := range []int{math.MinInt, -1} {
		if c := behind(nil); len(Take(c, n)) != 0 || c.Err() != api.ErrArg {
			t.Errorf("Take of %d: %d", n, c.Err())
		}
	}
	for _, n := range []int{1, 65536, math.MaxInt} {
		// That there are not so many comes ahead of what is wrong with those.
		if c := behind(nil); len(Take(c, n)) != 0 || c.Err() != api.ErrShort || c.At() != 3 {
			t.Errorf("Take of %d: %d", n, c.Err())
		}
		if c := behind([]byte{0, 1, 0, 8, 0, 0, 0, 0}); n > 8 && (len(Take(c, n)) != 0 || c.Err() != api.ErrShort || c.At() != 3) {
			t.Errorf("Take of %d: %d", n, c.Err())
		}
	}
	// What is read is of the cursor's part alone.
	c := cursor.New(plain(l), api.BadLen, api.BadPacket)
	s := c.Sub(24, api.InsLen, api.InsLen)
	if x := Take(s, 40); len(x) != 0 || s.Err() != api.InsLen || s.At() != 0 || c.Err() != api.OK {
		t.Errorf("Take of too few: %v, %d", x, s.Err())
	}
	if x := Take(c, 16); !equal(x, l[2:]) || c.Err() != api.OK || c.Left() != 0 {
		t.Errorf("Take: %v, %d", x, c.Err())
	}
}

// AL3: the ports of all outputs, whether these may be or not, ascending, each once.
func TestPorts(t *testing.T) {
	for _, x := range []struct {
		l    []api.Act
		want []uint64
	}{
		{nil, nil}, {[]api.Act{}, nil}, {few(), []uint64{3}}, {few()[:2], nil}, {[]api.Act{out(3), out(1), out(2)}, []uint64{1, 2, 3}}, {[]api.Act{out(3), out(3)}, []uint64{3}}, {[]api.Act{out(2), out(1), out(2), out(1)}, []uint64{1, 2}},
		{[]api.Act{act(action.Output, 5, 1), act(action.Output, 5, 2)}, []uint64{5}}, {[]api.Act{out(math.MaxUint64), out(0), out(1 << 32), out(0xfffffffb)}, []uint64{0, 0xfffffffb, 1 << 32, math.MaxUint64}}, {[]api.Act{{}}, []uint64{0}},
		{[]api.Act{act(action.Group, 4, 0), act(action.SetQueue, 5, 0), own(6), act(-1, 7, 0), act(1<<32, 8, 0), act(action.SetField, 9, 0)}, nil}, {[]api.Act{{Type: action.Output, A: 4, Data: []byte{1}, Set: basic(1, 1)}}, []uint64{4}},
	} {
		if p := Ports(x.l); !slices.Equal(p, x.want) {
			t.Errorf("Ports of %v: %v, not %v", x.l, p, x.want)
		}
	}
	// Of more than a list may have, the same each time.
	var l []api.Act
	for i := range 5000 {
		l = append(l, out(uint64(i*7919%3000)), act(action.Group, uint64(9000+i), 0))
	}
	for range 10 {
		if p := Ports(l); len(p) != 3000 || !slices.Equal(p, portsOf(l)) {
			t.Errorf("Ports: %d", len(p))
		}
	}
	p, q := Ports(l), Ports(l)
	clear(p[:cap(p)])
	if !slices.Equal(q, portsOf(l)) {
		t.Error("who changed one answer changed another")
	}
}

// others are lists of which each differs from the first one in one thing.
func others() [][]api.Act {
	one := []api.Act{{Type: 25, A: 3, B: 4, Set: api.Oxm{Class: 5, Field: 7, Has: true, Exp: 9, Value: []byte{1, 2}, Mask: []byte{3, 4}}, Data: []byte{5, 6}}, out(5), {}}
	l := [][]api.Act{one, nil, one[:1], one[:2], one[1:], append(clone(one), api.Act{}), {one[1], one[0], one[2]}, {one[0], one[2], one[1]}, {one[0], one[0], one[2]}, {one[0], one[1], one[1]}}
	for i := range one {
		for _, change := range []func(a *api.Act){
			func(a *api.Act) { a.Type = 24 },
			func(a *api.Act) { a.Type += 1 << 32 },
			func(a *api.Act) { a.A++ },
			func(a *api.Act) { a.A += 1 << 32 },
			func(a *api.Act) { a.B++ },
			func(a *api.Act) { a.Set.Class++ },
			func(a *api.Act) { a.Set.Field++ },
			func(a *api.Act) { a.Set.Has = !a.Set.Has },
			func(a *api.Act) { a.Set.Exp++ },
			func(a *api.Act) { a.Set.Value = append(slices.Clone(a.Set.Value), 0) },
			func(a *api.Act) { a.Set.Mask = append(slices.Clone(a.Set.Mask), 0) },
			func(a *api.Act) { a.Data = append(slices.Clone(a.Data), 0) },
			func(a *api.Act) { a.Data = slices.Concat([]byte{7}, a.Data) },
		} {
			x := clone(one)
			change(&x[i])
			l = append(l, x)
		}
	}
	return l
}

// AL3: two are the same just if they have as many actions, each the same in the same place, whether they may be or not.
func TestSame(t *testing.T) {
	for _, all := range [][][]api.Act{others(), samples()} {
		for i, a := range all {
			for j, b := range all {
				if Same(a, clone(b)) != (i == j) {
					t.Errorf("Same of %v, %v: %v", a, b, Same(a, b))
				}
			}
		}
	}
	if !Same(nil, []api.Act{}) || !Same([]api.Act{}, nil) || !Same(few()[:0], nil) || !Same([]api.Act{{}}, []api.Act{{Data: []byte{}, Set: api.Oxm{Value: []byte{}, Mask: []byte{}}}}) {
		t.Error("nil and empty are not the same")
	}
	if !Same(few()[:1], []api.Act{few()[0], {}}[:1]) || !Same([]api.Act{own(1, []byte{8, 0, 1}[:2]...)}, []api.Act{own(1, 8, 0)}) {
		t.Error("what lies behind is looked at")
	}
}

// AL3: a copy is the same, whether the list may be or not, in memory of its own.
func TestCopy(t *testing.T) {
	for _, l := range slices.Concat(others(), samples(), [][]api.Act{{}, wrongActs(), times(300), {own(1, []byte{}...)}, {long(65528), long(65528)}}) {
		l = append(make([]api.Act, 0, len(l)+2), l...)
		was := clone(l)
		c := Copy(l)
		if !equal(c, was) || !equal(l, was) {
			t.Errorf("Copy of %v: %v", was, c)
		}
		spoil(c)
		_ = append(c, out(1), out(2))
		if !equal(l, was) || !equal(l[:cap(l)][len(l):], []api.Act{{}, {}}) {
			t.Errorf("who changed a copy of %v changed it to %v", was, l[:cap(l)])
		}
		l = clone(was)
		c = Copy(l)
		spoil(l)
		if !equal(c, was) {
			t.Errorf("who changed %v changed its copy to %v", was, c)
		}
	}
}

// apart asks that no two lists of an answer share memory: who changes one changes no other.
func apart(t *testing.T, l []api.Act) {
	t.Helper()
	was, all := lists(clone(l)), lists(l)
	for i, b := range all {
		flip(b[:cap(b)])
		for j := range all {
			if j != i && !slices.Equal(all[j], was[j]) {
				t.Errorf("who changed the list %d changed %d: %v", i, j, l)
			}
		}
		flip(b[:cap(b)])
	}
}

// AL1, AL2, AL3: what is answered is new memory, and no two lists of it share any.
func TestNewMemory(t *testing.T) {
	for _, want := range samples() {
		b := append(plain(want), 7, 7, 7, 7)
		c := cursor.New(b, api.ErrShort, api.ErrState)
		own := b[:len(b)-4]
		first, _ := Decode(own)
		second, _ := Decode(own)
		third, fourth := Take(c, len(own)), []api.Act(nil)
		for _, l := range [][]api.Act{first, second, third} {
			fourth = Copy(l)
			apart(t, fourth)
		}
		clear(b)
		for _, l := range [][]api.Act{first, second, third, fourth} {
			if !equal(l, want) {
				t.Errorf("who changed the bytes changed %v to %v", want, l)
			}
			apart(t, l)
		}
		x, _ := Encode(second)
		y, _ := Encode(second)
		spoil(first)
		flip(x[:cap(x)])
		if !equal(second, want) || !equal(third, want) || !equal(fourth, want) || !slices.Equal(y, plain(want)) {
			t.Errorf("who changed one answer changed another to %v, %v, %v, %v", second, third, fourth, y)
		}
	}
	// The lists that are handed in may share memory; those of the copy do not.
	shared := []byte{8, 0, 9, 9}
	apart(t, Copy([]api.Act{own(1, shared[:2]...), own(2, shared[:3]...), {Set: api.Oxm{Value: shared[:2], Mask: shared[:2]}}}))
	if !slices.Equal(shared, []byte{8, 0, 9, 9}) {
		t.Errorf("Copy changed what is handed in to %v", shared)
	}
}

// AL1, AL2, AL3: what lies behind a list's length, or behind that of bytes, is neither read nor written.
func TestBehindInMemory(t *testing.T) {
	l := append(few(), api.Act{}, out(9))
	right(t, l[:3])
	right(t, l[:1])
	wrongOne(t, l)
	if !equal(l, append(few(), api.Act{}, out(9))) || !slices.Equal(Ports(l[:3]), []uint64{3}) {
		t.Errorf("%v", l)
	}
	right(t, times(70)[:64])
	b := append(plain(few()), 77, 77)
	got(t, b[:40], few())
	got(t, b[:24], few()[:2])
	notGot(t, b[:23], api.ActLen)
	notGot(t, b, api.ActLen)
	if !slices.Equal(b, append(plain(few()), 77, 77)) {
		t.Errorf("%v", b)
	}
}

// told is an action, told by three numbers: most may be.
func told(kind, a, more byte) api.Act {
	switch kind % 16 {
	case 0:
		return out(uint64(a) << (more % 34))
	case 1:
		return act(action.Output, uint64(a), uint64(more)<<(a%10))
	case 2:
		return set(basic(3, a, more, 3, 4, 5, 6))
	case 3:
		return set(basic(int(a%42), more, more))
	case 4:
		return own(uint64(a), make([]byte, more/16*8)...)
	case 5:
		return own(uint64(a)<<25, slices.Repeat([]byte{a}, int(more))...)
	case 6:
		return act(action.PushVlan, 33024+uint64(a/250), 0)
	case 7:
		return act(int(more%30), uint64(a), 0)
	case 8, 9:
		return act(action.Group, uint64(a)<<24|uint64(more), 0)
	case 10:
		return long(8 + 8*int(a)*int(more%32))
	}
	return act([...]int{action.CopyIn, action.CopyOut, action.PopVlan, action.DecTtl, action.PopPbb}[a%5], uint64(more/250), 0)
}

// AL1, AL2, AL3, AL4: lists by the thousand are what the chapter's words tell; enough of them may be.
func TestManyLists(t *testing.T) {
	r := rand.New(rand.NewSource(13))
	fine, longer := 0, 0
	for range 2000 {
		var l []api.Act
		for n := r.Intn(70); len(l) < n && r.Intn(60) > 0; {
			a := told(byte(r.Intn(256)), byte(r.Intn(256)), byte(r.Intn(256)))
			// Most of what may not be is left out, so that lists that may be are long.
			if action.Right(a) || r.Intn(40) == 0 {
				l = append(l, a)
			}
		}
		asked(t, l, mayBe(l))
		held(t, plain(l))
		if mayBe(l) && len(l) > 2 {
			fine++
		}
		if len(plain(l)) > 65528 {
			longer++
		}
	}
	if fine < 400 || longer < 100 {
		t.Errorf("%d lists alone may be, %d have too many bytes", fine, longer)
	}
}

// AL2, AL3, AL4: whatever the bytes, they are what the chapter's clauses tell, and again those bytes.
func FuzzDecode(f *testing.F) {
	for _, l := range samples() {
		f.Add(plain(l))
	}
	f.Add(plain(times(65)))
	f.Add([]byte{0, 1, 0, 8, 0, 0, 0, 0})
	f.Fuzz(func(t *testing.T, b []byte) {
		held(t, b)
		held(t, slices.Concat(plain(few()), b))
		held(t, slices.Concat(plain(times(62)), b))
	})
}

// AL1, AL2, AL3, AL4: whatever a list has, it is what the chapter's words tell.
func FuzzLists(f *testing.F) {
	f.Add([]byte{})
	f.Add([]byte{0, 1, 0, 2, 2, 2, 6, 0, 0, 8, 3, 4})
	f.Add([]byte{10, 255, 31, 10, 9, 1, 4, 1, 255})
	f.Fuzz(func(t *testing.T, b []byte) {
		var l []api.Act
		for i := 0; i+3 <= min(len(b), 240); i += 3 {
			l = append(l, told(b[i], b[i+1], b[i+2]))
		}
		asked(t, l, mayBe(l))
		held(t, plain(l))
	})
}
