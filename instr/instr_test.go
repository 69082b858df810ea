package instr

import (
	"encoding/binary"
	"math"
	"math/rand"
	"slices"
	"testing"

	"gunwale/action"
	"gunwale/acts"
	"gunwale/api"
	"gunwale/buffer"
	"gunwale/cursor"
)

// ins is an instruction with numbers alone.
func ins(kind int, a, b uint64) api.Ins { return api.Ins{Type: kind, A: a, B: b} }

// with is an instruction with actions.
func with(kind int, l ...api.Act) api.Ins { return api.Ins{Type: kind, Acts: l} }

// own is an experimenter's instruction.
func own(a uint64, data ...byte) api.Ins { return api.Ins{Type: Experiment, A: a, Data: data} }

// long is an experimenter's instruction of so many bytes, a multiple of 8 that is not 0.
func long(n int) api.Ins { return own(7, slices.Repeat([]byte{byte(n / 8)}, n-8)...) }

// longAct is an experimenter's action of so many bytes, a multiple of 8 that is not 0.
func longAct(n int) api.Act {
	return api.Act{Type: action.Experiment, A: 7, Data: slices.Repeat([]byte{byte(n / 8)}, n-8)}
}

// out is an output to a port.
func out(port uint64) api.Act { return api.Act{Type: action.Output, A: port} }

// pop is an action of 8 bytes.
func pop() api.Act { return api.Act{Type: action.PopVlan} }

// setEth is an action that sets the field eth_dst.
func setEth(last byte) api.Act {
	return api.Act{Type: action.SetField, Set: api.Oxm{Class: api.Basic, Field: 3, Value: []byte{1, 2, 3, 4, 5, last}}}
}

// few is a list of three instructions.
func few() []api.Ins {
	return []api.Ins{with(Apply, setEth(6), out(3)), ins(WriteMeta, 5, 7), ins(Goto, 9, 0)}
}

// every is a list of one instruction of each type.
func every() []api.Ins {
	return []api.Ins{ins(Meter, 7, 0), with(Apply, out(3), pop()), ins(Clear, 0, 0), with(Write, setEth(6), out(4)), ins(WriteMeta, 1<<63|1, 1<<63|3), own(9, 1, 2, 3, 4, 5, 6, 7, 8), ins(Goto, 254, 0)}
}

// samples are lists that may be.
func samples() [][]api.Ins {
	return [][]api.Ins{nil, few(), every(), {ins(Goto, 0, 0)}, {ins(Clear, 0, 0), with(Write), with(Apply)}, {ins(WriteMeta, 0, 0), ins(Meter, math.MaxUint32, 0)}, {ins(WriteMeta, math.MaxUint64, math.MaxUint64)},
		{own(1), own(1), own(math.MaxUint32, make([]byte, 40)...), ins(Goto, 1, 0), own(1)}, {with(Write, slices.Repeat([]api.Act{pop()}, 64)...), with(Apply, api.Act{Type: action.Experiment, A: 3, Data: make([]byte, 16)})}}
}

// equalAct holds two actions against one another without action's Same.
func equalAct(a, b api.Act) bool {
	return a.Type == b.Type && a.A == b.A && a.B == b.B && slices.Equal(a.Data, b.Data) &&
		a.Set.Class == b.Set.Class && a.Set.Field == b.Set.Field && a.Set.Has == b.Set.Has && a.Set.Exp == b.Set.Exp && slices.Equal(a.Set.Value, b.Set.Value) && slices.Equal(a.Set.Mask, b.Set.Mask)
}

// equalOne holds two instructions against one another without Same.
func equalOne(a, b api.Ins) bool {
	return a.Type == b.Type && a.A == b.A && a.B == b.B && slices.EqualFunc(a.Acts, b.Acts, equalAct) && slices.Equal(a.Data, b.Data)
}

// equal holds two lists against one another without Same.
func equal(a, b []api.Ins) bool { return slices.EqualFunc(a, b, equalOne) }

// clone is a copy of a list without Copy.
func clone(l []api.Ins) []api.Ins {
	c := slices.Clone(l)
	for i, x := range c {
		c[i].Acts, c[i].Data = slices.Clone(x.Acts), slices.Clone(x.Data)
		for j, a := range c[i].Acts {
			c[i].Acts[j].Set.Value, c[i].Acts[j].Set.Mask, c[i].Acts[j].Data = slices.Clone(a.Set.Value), slices.Clone(a.Set.Mask), slices.Clone(a.Data)
		}
	}
	return c
}

// lists are all lists of bytes of the instructions.
func lists(l []api.Ins) [][]byte {
	var all [][]byte
	for _, x := range l {
		all = append(all, x.Data)
		for _, a := range x.Acts {
			all = append(all, a.Set.Value, a.Set.Mask, a.Data)
		}
	}
	return all
}

// flip changes all bits.
func flip(b []byte) {
	for i := range b {
		b[i] ^= 255
	}
}

// spoil changes all that the instructions have, and what lies behind their lists in memory.
func spoil(l []api.Ins) {
	for _, b := range lists(l) {
		flip(b[:cap(b)])
	}
	for _, x := range l {
		more := x.Acts[:cap(x.Acts)]
		for i := range more {
			more[i].Type, more[i].A, more[i].B, more[i].Set.Class, more[i].Set.Exp = -7, 77, 77, -7, 77
		}
	}
	l = l[:cap(l)]
	for i := range l {
		l[i] = api.Ins{Type: -7, A: 77, B: 77}
	}
}

// number is a number's bytes, so many of them.
func number(n uint64, width int) []byte {
	return binary.BigEndian.AppendUint64(nil, n)[8-width:]
}

// plainOne is an instruction's bytes, if it may be but for what is asked, told as the chapter words it.
func plainOne(x api.Ins) []byte {
	var body []byte
	switch x.Type {
	case 1:
		body = []byte{byte(x.A), 0, 0, 0}
	case 2:
		body = slices.Concat(make([]byte, 4), number(x.A, 8), number(x.B, 8))
	case 3, 4:
		body = make([]byte, 4)
		for _, a := range x.Acts {
			b, _ := action.Encode(a)
			body = append(body, b...)
		}
	case 5:
		body = make([]byte, 4)
	case 6:
		body = number(x.A, 4)
	case 65535:
		body = append(number(x.A, 4), x.Data...)
	}
	return slices.Concat(number(uint64(x.Type), 2), number(uint64(4+len(body)), 2), body)
}

// plain is the instructions' bytes, one behind the other.
func plain(l []api.Ins) []byte {
	var b []byte
	for _, x := range l {
		b = append(b, plainOne(x)...)
	}
	return b
}

// mayOne is whether an instruction may be, told as the chapter words it.
func mayOne(x api.Ins) bool {
	fine := false
	switch x.Type {
	case 1:
		fine = x.A <= 254 && x.B == 0 && len(x.Acts) == 0 && len(x.Data) == 0
	case 2:
		fine = x.A|x.B == x.B && len(x.Acts) == 0 && len(x.Data) == 0
	case 3, 4:
		fine = x.A == 0 && x.B == 0 && acts.Right(x.Acts) && len(x.Data) == 0
	case 5:
		fine = x.A == 0 && x.B == 0 && len(x.Acts) == 0 && len(x.Data) == 0
	case 6:
		fine = x.A <= math.MaxUint32 && x.B == 0 && len(x.Acts) == 0 && len(x.Data) == 0
	case 65535:
		fine = x.A <= math.MaxUint32 && x.B == 0 && len(x.Acts) == 0 && len(x.Data)%8 == 0
	}
	return fine && len(plainOne(x)) <= 65528
}

// mayList is Right, told as the chapter words it.
func mayList(l []api.Ins) bool {
	for i, x := range l {
		for _, y := range l[:i] {
			if x.Type == y.Type && x.Type != 65535 {
				return false
			}
		}
		if !mayOne(x) {
			return false
		}
	}
	return len(plain(l)) <= 65528
}

// decodedOne is the one with which bytes begin, told clause by clause as the chapter lists them.
func decodedOne(b []byte, ahead []api.Ins) (api.Ins, int, api.Errno) {
	if len(b) < 4 {
		return api.Ins{}, 0, api.InsLen
	}
	kind, n := int(b[0])<<8|int(b[1]), int(b[2])<<8|int(b[3])
	if n < 8 || n%8 != 0 || n > len(b) {
		return api.Ins{}, 0, api.InsLen
	}
	least, open, ok := 8, false, true
	var zeros []byte
	switch kind {
	case 1:
		zeros = b[5:8]
	case 2:
		least, zeros = 24, b[4:8]
	case 3, 4:
		open, zeros = true, b[4:8]
	case 5:
		zeros = b[4:8]
	case 6:
	case 65535:
		open = true
	default:
		ok = false
	}
	if !ok {
		return api.Ins{}, 0, api.InsType
	}
	if kind != 65535 && slices.ContainsFunc(ahead, func(x api.Ins) bool { return x.Type == kind }) {
		return api.Ins{}, 0, api.InsTwice
	}
	if n < least || n > least && !open || slices.ContainsFunc(zeros, func(x byte) bool { return x != 0 }) {
		return api.Ins{}, 0, api.InsLen
	}
	x := api.Ins{Type: kind}
	switch kind {
	case 1:
		x.A = uint64(b[4])
		if x.A == 255 {
			return api.Ins{}, 0, api.InsTable
		}
	case 2:
		x.A, x.B = binary.BigEndian.Uint64(b[8:]), binary.BigEndian.Uint64(b[16:])
		if x.A|x.B != x.B {
			return api.Ins{}, 0, api.InsMeta
		}
	case 3, 4:
		l, e := acts.Decode(b[8:n])
		if e != api.OK {
			return api.Ins{}, 0, e
		}
		x.Acts = l
	case 6, 65535:
		x.A, x.Data = uint64(binary.BigEndian.Uint32(b[4:])), slices.Clone(b[8:n])
	}
	return x, n, api.OK
}

// decoded is Decode, told clause by clause as the chapter lists them.
func decoded(b []byte) ([]api.Ins, api.Errno) {
	var l []api.Ins
	for left := b; len(left) > 0; {
		x, n, e := decodedOne(left, l)
		if e != api.OK {
			return nil, e
		}
		l, left = append(l, x), left[n:]
	}
	if len(b) > 65528 {
		return nil, api.InsLen
	}
	return l, api.OK
}

// short tells bytes, or of many the first ones and how many there are.
func short(b []byte) (first []byte, n int) { return b[:min(len(b), 40)], len(b) }

// right asks for a list that may be: its bytes, and, of these, for itself; and that none of this changes what is handed in.
func right(t *testing.T, l []api.Ins) {
	t.Helper()
	was, want := clone(l), plain(l)
	if !Right(l) {
		t.Errorf("Right of %v: false", l)
	}
	if b, e := Encode(l); e != api.OK || !slices.Equal(b, want) {
		t.Errorf("Encode of %d: %d bytes, %d; not %d", len(l), len(b), e, len(want))
	}
	put(t, l, want, api.OK)
	got(t, want, was)
	same(t, l, was)
}

// wrongOne asks for a list that may not be.
func wrongOne(t *testing.T, l []api.Ins) {
	t.Helper()
	was := clone(l)
	if Right(l) {
		t.Errorf("Right of %v: true", l)
	}
	if b, e := Encode(l); e != api.ErrArg || len(b) != 0 {
		t.Errorf("Encode of %v: %v, %d", l, b, e)
	}
	put(t, l, nil, api.ErrArg)
	same(t, l, was)
}

// asked asks for a list, which may be or not.
func asked(t *testing.T, l []api.Ins, may bool) {
	t.Helper()
	if may {
		right(t, l)
	} else {
		wrongOne(t, l)
	}
}

// nextOf is Next, told from the end.
func nextOf(l []api.Ins) (table int, ok bool) {
	for _, x := range slices.Backward(l) {
		if x.Type == 1 {
			table, ok = int(x.A), true
		}
	}
	return table, ok
}

// same asks for a copy, for the next table, and that a list is still what it was.
func same(t *testing.T, l, was []api.Ins) {
	t.Helper()
	if c := Copy(l); !equal(c, was) || !Same(c, l) || !Same(l, c) {
		t.Errorf("Copy of %v: %v", l, c)
	}
	table, ok := Next(l)
	if want, there := nextOf(l); table != want || ok != there {
		t.Errorf("Next of %v: %d, %v", l, table, ok)
	}
	if !equal(l, was) {
		t.Errorf("%v was changed to %v", was, l)
	}
}

// put asks Put to write a list behind three bytes.
func put(t *testing.T, l []api.Ins, want []byte, wantE api.Errno) {
	t.Helper()
	b := buffer.New(100000)
	b.Bytes([]byte{7, 8, 9})
	Put(b, l)
	if b.Len() != 3+len(want) {
		t.Errorf("Put of %d: %d bytes, not %d", len(l), b.Len()-3, len(want))
	}
	all, e := b.Done()
	if e != wantE || e == api.OK && !slices.Equal(all, append([]byte{7, 8, 9}, want...)) {
		t.Errorf("Put of %d: %d bytes, %d; not %d, %d", len(l), len(all), e, len(want), wantE)
	}
}

// behind is a cursor that has read three bytes ahead of those.
func behind(b []byte) *cursor.Cursor {
	c := cursor.New(append([]byte{0, 0, 0}, b...), api.ErrShort, api.ErrState)
	c.Bytes(3)
	return c
}

// got asks Decode and Take for a list.
func got(t *testing.T, b []byte, want []api.Ins) {
	t.Helper()
	was := slices.Clone(b)
	first, n := short(b)
	if l, e := Decode(b); e != api.OK || !equal(l, want) {
		t.Errorf("Decode of %v (%d): %v, %d; not %v", first, n, l, e, want)
	}
	if !slices.Equal(b, was) {
		t.Errorf("Decode changed %v (%d)", first, n)
	}
	c := behind(b)
	if l := Take(c); c.Err() != api.OK || c.At() != 3+len(b) || c.Left() != 0 || !equal(l, want) {
		t.Errorf("Take of %v (%d): %v, %d, at %d, %d left; not %v", first, n, l, c.Err(), c.At(), c.Left(), want)
	}
}

// notGot asks Decode and Take for an error, and nothing beside it.
func notGot(t *testing.T, b []byte, want api.Errno) {
	t.Helper()
	was := slices.Clone(b)
	first, n := short(b)
	if l, e := Decode(b); e != want || len(l) != 0 {
		t.Errorf("Decode of %v (%d): %v, %d; not %d", first, n, l, e, want)
	}
	if !slices.Equal(b, was) {
		t.Errorf("Decode changed %v (%d)", first, n)
	}
	c := behind(b)
	if l := Take(c); c.Err() != want || c.At() != 3 || c.Left() != len(b) || len(l) != 0 {
		t.Errorf("Take of %v (%d): %v, %d, at %d, %d left; not %d", first, n, l, c.Err(), c.At(), c.Left(), want)
	}
}

// held asks Decode for what the chapter's clauses tell of bytes; what is decoded may be, and is those bytes.
func held(t *testing.T, b []byte) {
	t.Helper()
	l, e := decoded(b)
	if e != api.OK {
		notGot(t, b, e)
		return
	}
	got(t, b, l)
	again, e := Encode(l)
	if !Right(l) || e != api.OK || !slices.Equal(again, b) {
		first, n := short(b)
		t.Errorf("Encode of what %v (%d) is: %d bytes, %d", first, n, len(again), e)
	}
}

// The chapter's example, and DOC.md's: two Gotos in one list.
func TestExample(t *testing.T) {
	b := []byte{0, 1, 0, 8, 7, 0, 0, 0}
	if l, e := Decode(b); e != api.OK || len(l) != 1 || !equalOne(l[0], api.Ins{Type: Goto, A: 7}) {
		t.Errorf("Decode: %v, %d", l, e)
	}
	if x, e := Encode([]api.Ins{{Type: Goto, A: 7}}); e != api.OK || !slices.Equal(x, b) {
		t.Errorf("Encode: %v, %d", x, e)
	}
	if l, e := Decode(slices.Concat(b, b)); e != api.InsTwice || len(l) != 0 {
		t.Errorf("Decode of two: %v, %d", l, e)
	}
	for _, l := range [][]api.Ins{nil, {}, few()[:0]} {
		right(t, l)
		if b, e := Encode(l); e != api.OK || len(b) != 0 {
			t.Errorf("Encode of nothing: %v, %d", b, e)
		}
	}
	for _, x := range [][]byte{nil, {}, b[:0]} {
		if l, e := Decode(x); e != api.OK || len(l) != 0 {
			t.Errorf("Decode of nothing: %v, %d", l, e)
		}
		held(t, x)
	}
}

// IN1, IN2: the types' numbers.
func TestTypes(t *testing.T) {
	if [...]int{Goto, WriteMeta, Write, Apply, Clear, Meter, Experiment} != [...]int{1, 2, 3, 4, 5, 6, 65535} {
		t.Error("the types have other numbers")
	}
}

// IN1, IN2: bytes spelt out, both ways.
func TestBytes(t *testing.T) {
	for _, x := range []struct {
		l []api.Ins
		b []byte
	}{
		{[]api.Ins{ins(1, 254, 0)}, []byte{0, 1, 0, 8, 254, 0, 0, 0}},
		{[]api.Ins{ins(2, 0x0102030405060708, 0x1112131415161718|0x0102030405060708)}, []byte{0, 2, 0, 24, 0, 0, 0, 0, 1, 2, 3, 4, 5, 6, 7, 8, 0x11, 0x12, 0x13, 0x14, 0x15, 0x16, 0x17, 0x18}},
		{[]api.Ins{with(3, out(3))}, []byte{0, 3, 0, 24, 0, 0, 0, 0, 0, 0, 0, 16, 0, 0, 0, 3, 0, 0, 0, 0, 0, 0, 0, 0}},
		{[]api.Ins{with(4, pop(), setEth(6))}, []byte{0, 4, 0, 32, 0, 0, 0, 0, 0, 18, 0, 8, 0, 0, 0, 0, 0, 25, 0, 16, 128, 0, 6, 6, 1, 2, 3, 4, 5, 6, 0, 0}},
		{[]api.Ins{with(4), with(3)}, []byte{0, 4, 0, 8, 0, 0, 0, 0, 0, 3, 0, 8, 0, 0, 0, 0}},
		{[]api.Ins{ins(5, 0, 0)}, []byte{0, 5, 0, 8, 0, 0, 0, 0}},
		{[]api.Ins{ins(6, 0x01020304, 0)}, []byte{0, 6, 0, 8, 1, 2, 3, 4}},
		{[]api.Ins{own(0xfffefdfc, 1, 2, 3, 4, 5, 6, 7, 8), own(9)}, []byte{255, 255, 0, 16, 255, 254, 253, 252, 1, 2, 3, 4, 5, 6, 7, 8, 255, 255, 0, 8, 0, 0, 0, 9}},
		{[]api.Ins{ins(6, 0, 0), ins(1, 0, 0)}, []byte{0, 6, 0, 8, 0, 0, 0, 0, 0, 1, 0, 8, 0, 0, 0, 0}},
		{[]api.Ins{ins(1, 0, 0), ins(6, 0, 0)}, []byte{0, 1, 0, 8, 0, 0, 0, 0, 0, 6, 0, 8, 0, 0, 0, 0}},
	} {
		if b, e := Encode(x.l); e != api.OK || !slices.Equal(b, x.b) {
			t.Errorf("Encode of %v: %v, %d; not %v", x.l, b, e, x.b)
		}
		if l, e := Decode(x.b); e != api.OK || !equal(l, x.l) {
			t.Errorf("Decode of %v: %v, %d; not %v", x.b, l, e, x.l)
		}
		right(t, x.l)
	}
}

// IN1, IN2, IN4: each number at the edges of what it may be, of each type.
func TestNumbers(t *testing.T) {
	edges := []uint64{0, 1, 7, 8, 253, 254, 255, 256, 65535, 65536, math.MaxUint32 - 1, math.MaxUint32, 1 << 32, 1<<32 + 7, math.MaxInt64, 1 << 63, math.MaxUint64}
	for _, kind := range []int{1, 2, 3, 4, 5, 6, 65535, 0, 7, 8, 65534, -1, 65536, 65537, 1<<32 + 1, math.MinInt, math.MaxInt} {
		for _, a := range edges {
			for _, b := range edges {
				x := ins(kind, a, b)
				asked(t, []api.Ins{x}, mayOne(x))
			}
		}
	}
	// Spelt out, so that the model is not asked alone.
	for _, x := range []struct {
		x    api.Ins
		want bool
	}{
		{ins(1, 0, 0), true}, {ins(1, 254, 0), true}, {ins(1, 255, 0), false}, {ins(1, 256, 0), false}, {ins(1, 1<<32, 0), false}, {ins(1, 7, 1), false}, {ins(2, 0, 0), true}, {ins(2, 0, 1), true}, {ins(2, 1, 0), false}, {ins(2, 1, 3), true}, {ins(2, 3, 1), false}, {ins(2, 1<<63, 1<<63), true}, {ins(2, 1<<63, math.MaxInt64), false},
		{ins(3, 0, 0), true}, {ins(3, 1, 0), false}, {ins(4, 0, 1), false}, {ins(5, 0, 0), true}, {ins(5, 1, 0), false}, {ins(5, 0, 1), false}, {ins(6, 0, 0), true}, {ins(6, math.MaxUint32, 0), true}, {ins(6, 1<<32, 0), false}, {ins(6, 1, 1), false}, {ins(65535, math.MaxUint32, 0), true}, {ins(65535, 1<<32, 0), false}, {ins(65535, 1, 1), false},
		{ins(0, 0, 0), false}, {ins(7, 0, 0), false}, {ins(-1, 0, 0), false}, {ins(65534, 0, 0), false}, {ins(65536, 0, 0), false}, {ins(65537, 0, 0), false}, {ins(1<<32|5, 0, 0), false},
	} {
		asked(t, []api.Ins{x.x}, x.want)
	}
}

// IN1, IN2: each bit of A, of a WriteMeta, is asked of B.
func TestMeta(t *testing.T) {
	for i := range 64 {
		for j := range 64 {
			one, all := uint64(1)<<i, uint64(1)<<i|uint64(1)<<j
			asked(t, []api.Ins{ins(WriteMeta, one, uint64(1)<<j)}, i == j)
			asked(t, []api.Ins{ins(WriteMeta, all, one)}, i == j)
			right(t, []api.Ins{ins(WriteMeta, one, all)})
			b := slices.Concat([]byte{0, 2, 0, 24, 0, 0, 0, 0}, number(all, 8), number(one, 8))
			if i == j {
				got(t, b, []api.Ins{ins(WriteMeta, one, one)})
			} else {
				notGot(t, b, api.InsMeta)
			}
		}
		wrongOne(t, []api.Ins{ins(WriteMeta, math.MaxUint64, math.MaxUint64^1<<i)})
		right(t, []api.Ins{ins(WriteMeta, math.MaxUint64^1<<i, math.MaxUint64)})
	}
}

// wrongActs are actions that may not be.
func wrongActs() []api.Act {
	return []api.Act{{}, out(0), out(1 << 32), {Type: 1}, {Type: -1}, {Type: 65536}, {Type: action.PopVlan, A: 1}, {Type: action.Group, A: 4294967041}, {Type: action.PushVlan}, {Type: action.SetField}, {Type: action.Experiment, Data: []byte{1}}, longAct(65536)}
}

// wrongIns are instructions that may not be.
func wrongIns() []api.Ins {
	l := []api.Ins{{}, ins(7, 0, 0), ins(-1, 0, 0), ins(65534, 0, 0), ins(65536+5, 0, 0), ins(Goto, 255, 0), ins(Goto, 1, 1), ins(WriteMeta, 1, 2), ins(Clear, 1, 0), ins(Clear, 0, 1), ins(Meter, 1<<32, 0), ins(Meter, 1, 1), own(1<<32, 1, 2, 3, 4, 5, 6, 7, 8), ins(Experiment, 1, 1), own(1, make([]byte, 65528)...)}
	for n := range 24 {
		if n%8 != 0 {
			l = append(l, own(1, make([]byte, n)...))
		}
	}
	for _, kind := range []int{Goto, WriteMeta, Clear, Meter, Experiment} {
		l = append(l, with(kind, out(1)))
	}
	for _, kind := range []int{Goto, WriteMeta, Write, Apply, Clear, Meter} {
		l = append(l, api.Ins{Type: kind, Data: []byte{0}}, api.Ins{Type: kind, Data: make([]byte, 8)})
	}
	for _, kind := range []int{Write, Apply} {
		for _, a := range wrongActs() {
			l = append(l, with(kind, a), with(kind, out(1), a), with(kind, a, out(1)))
		}
		l = append(l, api.Ins{Type: kind, A: 1, Acts: []api.Act{out(1)}}, api.Ins{Type: kind, B: 1, Acts: []api.Act{out(1)}}, with(kind, slices.Repeat([]api.Act{pop()}, 65)...), with(kind, longAct(65528)), with(kind, longAct(65520), pop()))
	}
	return l
}

// IN1: an instruction that may not be makes no list, wherever it stands.
func TestWrongInstructions(t *testing.T) {
	for _, x := range wrongIns() {
		if mayOne(x) {
			t.Errorf("%v may be", x)
		}
		wrongOne(t, []api.Ins{x})
		wrongOne(t, []api.Ins{x, x})
		wrongOne(t, []api.Ins{own(1), x})
		wrongOne(t, []api.Ins{x, own(1)})
		wrongOne(t, []api.Ins{own(1), x, own(1)})
	}
}

// kinds is one instruction that may be of each type.
func kinds() []api.Ins {
	return []api.Ins{ins(Goto, 3, 0), ins(WriteMeta, 1, 1), with(Write, out(1)), with(Apply, pop()), ins(Clear, 0, 0), ins(Meter, 4, 0), own(5, make([]byte, 8)...)}
}

// IN1, IN2: no two have one type, but experimenters' do, wherever they stand.
func TestTwice(t *testing.T) {
	for i, a := range kinds() {
		for j, b := range kinds() {
			twice := i == j && a.Type != Experiment
			for _, l := range [][]api.Ins{{a, b}, {own(1), a, b}, {a, own(1), b}, {a, own(1), own(1), b, own(1)}} {
				asked(t, l, !twice)
				if twice {
					notGot(t, plain(l), api.InsTwice)
				}
			}
		}
		// Twice, though they are not the same.
		for _, b := range []api.Ins{ins(Goto, 4, 0), ins(WriteMeta, 0, 0), with(Write), with(Apply, out(9)), ins(Meter, 5, 0)} {
			if a.Type == b.Type {
				wrongOne(t, []api.Ins{a, b})
				notGot(t, plain([]api.Ins{a, b}), api.InsTwice)
			}
		}
	}
	wrongOne(t, append(every(), ins(Clear, 0, 0)))
	notGot(t, plain(append(every(), ins(Clear, 0, 0))), api.InsTwice)
	right(t, slices.Repeat([]api.Ins{own(7, 1, 2, 3, 4, 5, 6, 7, 8)}, 300))
	// Each order of the seven types may be.
	r := rand.New(rand.NewSource(15))
	for range 200 {
		l := kinds()
		r.Shuffle(len(l), func(i, j int) { l[i], l[j] = l[j], l[i] })
		right(t, l)
	}
}

// IN1, IN2: one has 65528 bytes at most, and so have all together.
func TestLongest(t *testing.T) {
	for _, x := range []struct {
		l    []api.Ins
		want bool
	}{
		{[]api.Ins{long(65528)}, true}, {[]api.Ins{with(Write, longAct(65520))}, true}, {[]api.Ins{with(Apply, longAct(65512), pop())}, true},
		{[]api.Ins{long(65520), own(1)}, true}, {[]api.Ins{long(65528), own(1)}, false}, {[]api.Ins{own(1), long(65528)}, false}, {[]api.Ins{long(65528), ins(Goto, 1, 0)}, false}, {[]api.Ins{ins(Goto, 1, 0), long(65520)}, true}, {[]api.Ins{long(65504), ins(WriteMeta, 1, 1)}, true}, {[]api.Ins{long(65512), ins(WriteMeta, 1, 1)}, false},
		{[]api.Ins{with(Write, longAct(32752)), with(Apply, longAct(32760))}, true}, {[]api.Ins{with(Write, longAct(32760)), with(Apply, longAct(32760))}, false}, {[]api.Ins{with(Write, longAct(65520)), with(Apply)}, false}, {[]api.Ins{long(65528), long(65528)}, false}, {[]api.Ins{long(32768), long(32760)}, true}, {[]api.Ins{long(32768), long(32768)}, false},
		{slices.Repeat([]api.Ins{own(1)}, 8191), true}, {slices.Repeat([]api.Ins{own(1)}, 8192), false}, {slices.Repeat([]api.Ins{own(1)}, 100000), false}, {slices.Repeat([]api.Ins{long(65528)}, 50), false},
	} {
		if mayOne(x.l[0]) != true {
			t.Errorf("one of %d bytes may not be", len(plainOne(x.l[0])))
		}
		if len(plain(x.l)) <= 65528 != x.want {
			t.Errorf("%d bytes", len(plain(x.l)))
		}
		if x.want {
			right(t, x.l)
			continue
		}
		if b, e := Encode(x.l); Right(x.l) || e != api.ErrArg || len(b) != 0 {
			t.Errorf("Encode of %d bytes: %v, %d, %d", len(plain(x.l)), Right(x.l), len(b), e)
		}
		put(t, x.l, nil, api.ErrArg)
		notGot(t, plain(x.l), api.InsLen)
	}
	// Beyond what a length can tell one alone may not be; its actions alone may.
	wrongOne(t, []api.Ins{long(65536)})
	wrongOne(t, []api.Ins{with(Write, longAct(65528))})
	if !acts.Right([]api.Act{longAct(65528)}) {
		t.Error("such actions may be a list")
	}
}

// head is an instruction's type and length, and bytes behind these.
func head(kind, n int, body ...byte) []byte {
	return slices.Concat(number(uint64(kind), 2), number(uint64(n), 2), body)
}

// IN2: of each type each length, from 0 on, with as many bytes, fewer, and more.
func TestLengths(t *testing.T) {
	for _, kind := range []int{0, 1, 2, 3, 4, 5, 6, 7, 255, 256, 65534, 65535} {
		for n := range 60 {
			for _, there := range []int{n - 9, n - 8, n - 1, n, n + 1, n + 7, n + 8, n + 16} {
				if there >= 4 {
					held(t, head(kind, n, make([]byte, there-4)...))
				}
			}
		}
		for _, n := range []int{32768, 65520, 65527, 65528, 65529, 65535} {
			held(t, head(kind, n, make([]byte, 65524)...))
			held(t, head(kind, n, make([]byte, 100)...))
		}
	}
	for kind, want := range map[int]int{1: 8, 2: 24, 5: 8, 6: 8} {
		for n := 8; n <= 64; n += 8 {
			b := head(kind, n, make([]byte, n-4)...)
			if n == want {
				got(t, b, []api.Ins{ins(kind, 0, 0)})
			} else {
				notGot(t, b, api.InsLen)
			}
		}
	}
	for n := range 80 {
		b := head(Experiment, n, make([]byte, max(n, 4)-4)...)
		if n >= 8 && n%8 == 0 {
			got(t, b, []api.Ins{own(0, make([]byte, n-8)...)})
		} else {
			notGot(t, b, api.InsLen)
		}
	}
}

// IN2: of several errors the one that is named first.
func TestDecodeErrors(t *testing.T) {
	clear8, meta := head(5, 8, 0, 0, 0, 0), head(2, 24, make([]byte, 20)...)
	bad := []byte{0, 1, 0, 8, 0, 0, 0, 0}
	for _, x := range []struct {
		b    []byte
		want api.Errno
	}{
		// The length of a thing, whatever its type.
		{[]byte{0}, api.InsLen}, {[]byte{0, 99}, api.InsLen}, {[]byte{0, 99, 0}, api.InsLen}, {head(99, 8), api.InsLen}, {head(99, 0, 0, 0, 0, 0), api.InsLen}, {head(99, 4, 0, 0, 0, 0), api.InsLen}, {head(99, 12, make([]byte, 12)...), api.InsLen}, {head(99, 16, 0, 0, 0, 0), api.InsLen}, {clear8[:7], api.InsLen},
		// The type, ahead of all but that.
		{head(99, 8, 1, 1, 1, 1), api.InsType}, {head(0, 8, 0, 0, 0, 0), api.InsType}, {head(7, 24, make([]byte, 20)...), api.InsType}, {head(65534, 8, 0, 0, 0, 0), api.InsType}, {head(256, 8, 0, 0, 0, 0), api.InsType},
		// Twice, ahead of what is wrong with the second one but its length as a thing.
		{slices.Concat(clear8, clear8), api.InsTwice}, {slices.Concat(clear8, head(5, 16, make([]byte, 12)...)), api.InsTwice}, {slices.Concat(clear8, head(5, 8, 0, 0, 0, 1)), api.InsTwice}, {slices.Concat(clear8, head(5, 9, make([]byte, 12)...)), api.InsLen}, {slices.Concat(clear8, head(5, 16, 0, 0, 0, 0)), api.InsLen}, {slices.Concat(clear8, head(5, 8)), api.InsLen},
		{slices.Concat(head(1, 8, 7, 0, 0, 0), head(1, 8, 255, 0, 0, 0)), api.InsTwice}, {slices.Concat(meta, head(2, 8, 0, 0, 0, 0)), api.InsTwice}, {slices.Concat(meta, head(2, 24, 0, 0, 0, 0, 0, 0, 0, 0, 0, 0, 0, 1, 0, 0, 0, 0, 0, 0, 0, 0)), api.InsTwice}, {slices.Concat(head(3, 8, 0, 0, 0, 0), head(3, 16, append([]byte{0, 0, 0, 0}, bad...)...)), api.InsTwice}, {slices.Concat(head(4, 8, 0, 0, 0, 0), clear8, head(4, 8, 0, 0, 0, 0)), api.InsTwice},
		// The row's length, and its zeros, ahead of what A may be.
		{head(1, 16, 255, 0, 0, 0, 0, 0, 0, 0, 0, 0, 0, 0), api.InsLen}, {head(1, 8, 255, 0, 0, 1), api.InsLen}, {head(1, 8, 255, 1, 0, 0), api.InsLen}, {head(1, 8, 7, 0, 1, 0), api.InsLen}, {head(2, 16, 0, 0, 0, 0, 255, 255, 255, 255, 255, 255, 255, 255), api.InsLen}, {head(2, 8, 0, 0, 0, 0), api.InsLen}, {head(2, 32, append([]byte{0, 0, 0, 0, 255, 255}, make([]byte, 22)...)...), api.InsLen}, {head(2, 24, append([]byte{0, 0, 0, 1, 255, 255}, make([]byte, 14)...)...), api.InsLen}, {head(2, 24, append([]byte{1, 0, 0, 0}, make([]byte, 16)...)...), api.InsLen},
		{head(5, 8, 0, 0, 0, 1), api.InsLen}, {head(5, 8, 1, 0, 0, 0), api.InsLen}, {head(5, 16, make([]byte, 12)...), api.InsLen}, {head(6, 16, make([]byte, 12)...), api.InsLen},
		// What A may be.
		{head(1, 8, 255, 0, 0, 0), api.InsTable}, {head(2, 24, append([]byte{0, 0, 0, 0, 255, 255}, make([]byte, 14)...)...), api.InsMeta}, {slices.Concat(head(1, 8, 255, 0, 0, 0), []byte{0}), api.InsTable}, {slices.Concat(head(2, 24, append([]byte{0, 0, 0, 0, 0, 0, 0, 0, 0, 0, 0, 3}, 0, 0, 0, 0, 0, 0, 0, 1)...), head(99, 8, 0, 0, 0, 0)), api.InsMeta},
		// The row of Write and Apply, ahead of their actions.
		{head(3, 16, append([]byte{0, 0, 0, 1}, bad...)...), api.InsLen}, {head(4, 16, append([]byte{1, 0, 0, 0}, bad...)...), api.InsLen}, {head(3, 16, append([]byte{0, 0, 0, 0}, bad...)...), api.ActType}, {head(4, 16, append([]byte{0, 0, 0, 0}, bad...)...), api.ActType},
		// Layers 12 and 13's errors.
		{head(3, 16, 0, 0, 0, 0, 0, 18, 0, 16, 0, 0, 0, 0), api.ActLen}, {head(4, 16, make([]byte, 12)...), api.ActLen}, {head(4, 16, 0, 0, 0, 0, 0, 18, 0, 8, 0, 0, 0, 1), api.ActArg}, {head(3, 24, append([]byte{0, 0, 0, 0, 0, 0, 0, 16}, make([]byte, 12)...)...), api.ActPort}, {head(3, 16, 0, 0, 0, 0, 0, 22, 0, 8, 255, 255, 255, 255), api.ActGroup}, {head(4, 16, 0, 0, 0, 0, 0, 25, 0, 8, 128, 0, 6, 6), api.SetLen}, {head(4, 24, 0, 0, 0, 0, 0, 25, 0, 16, 128, 0, 0, 4, 0, 0, 0, 1, 0, 0, 0, 0), api.SetType}, {head(4, 24, 0, 0, 0, 0, 0, 25, 0, 16, 128, 0, 14, 1, 8, 0, 0, 0, 0, 0, 0, 0), api.SetArg},
		{head(3, 8+65*8, slices.Concat(make([]byte, 4), slices.Repeat([]byte{0, 18, 0, 8, 0, 0, 0, 0}, 65))...), api.ActMany}, {head(3, 8+65*8, slices.Concat(make([]byte, 4), slices.Repeat([]byte{0, 18, 0, 8, 0, 0, 0, 0}, 64), bad)...), api.ActMany},
		// The actions end where the instruction does.
		{slices.Concat(head(3, 16, 0, 0, 0, 0, 0, 0, 0, 16, 0, 0, 0, 1), make([]byte, 8)), api.ActLen},
		// The first that is wrong, whatever is behind.
		{slices.Concat(head(99, 8, 0, 0, 0, 0), head(1, 8, 255, 0, 0, 0)), api.InsType}, {slices.Concat(head(1, 8, 255, 0, 0, 0), head(99, 8, 0, 0, 0, 0)), api.InsTable}, {slices.Concat(head(3, 16, append([]byte{0, 0, 0, 0}, bad...)...), head(99, 8, 0, 0, 0, 0)), api.ActType}, {slices.Concat(clear8, head(99, 8, 0, 0, 0, 0)), api.InsType}, {slices.Concat(clear8, []byte{0}), api.InsLen}, {slices.Concat(clear8, make([]byte, 8)), api.InsLen},
		// Too many bytes, behind all that.
		{slices.Concat(plain([]api.Ins{long(65528)}), clear8), api.InsLen}, {slices.Concat(plain([]api.Ins{long(65528)}), clear8, clear8), api.InsTwice}, {slices.Concat(plain([]api.Ins{long(65528)}), head(99, 8, 0, 0, 0, 0)), api.InsType}, {slices.Concat(plain([]api.Ins{long(65528), long(65528)}), head(1, 8, 255, 0, 0, 0)), api.InsTable}, {slices.Concat(plain([]api.Ins{long(65528)}), head(3, 16, append([]byte{0, 0, 0, 0}, bad...)...)), api.ActType},
	} {
		notGot(t, x.b, x.want)
		if _, e := decoded(x.b); e != x.want {
			first, n := short(x.b)
			t.Errorf("decoded of %v (%d): %d, not %d", first, n, e, x.want)
		}
	}
}

// IN2: each type is none but those seven.
func TestDecodeTypes(t *testing.T) {
	for kind := range 65536 {
		b := head(kind, 8, 0, 0, 0, 0)
		l, e := Decode(b)
		want := api.InsType
		switch kind {
		case 1, 3, 4, 5, 6, 65535:
			want = api.OK
		case 2:
			want = api.InsLen
		}
		if e != want || e == api.OK && !equal(l, []api.Ins{ins(kind, 0, 0)}) || e != api.OK && len(l) != 0 {
			t.Errorf("Decode of the type %d: %v, %d; not %d", kind, l, e, want)
		}
		if x := ins(kind, 0, 0); Right([]api.Ins{x}) != (want == api.OK || kind == 2) {
			t.Errorf("Right of the type %d", kind)
		}
	}
}

// IN2, IN4: each change of one byte of a list's bytes, and each cut, is what the chapter's clauses tell.
func TestDecodeChanged(t *testing.T) {
	for _, l := range samples() {
		b := plain(l)
		ends := map[int]int{0: 0}
		for i := range l {
			ends[len(plain(l[:i+1]))] = i + 1
		}
		for i := range b {
			if n, ok := ends[i]; ok {
				got(t, b[:i], l[:n])
			} else {
				notGot(t, b[:i], api.InsLen)
			}
			held(t, b[i:])
			for _, x := range []byte{0, 1, 2, 3, 4, 5, 6, 8, 16, 24, 32, 128, 254, 255} {
				changed := slices.Clone(b)
				changed[i] = x
				held(t, changed)
			}
		}
	}
}

// IN4: what was encoded is decoded, and two lists without a type in common, one behind the other, are their bytes so.
func TestOneBehindTheOther(t *testing.T) {
	for _, a := range samples() {
		for _, b := range samples() {
			both := slices.Concat(a, b)
			asked(t, both, mayList(both))
			held(t, plain(both))
			if !Right(both) {
				continue
			}
			x, _ := Encode(a)
			y, _ := Encode(b)
			if z, e := Encode(both); e != api.OK || !slices.Equal(z, slices.Concat(x, y)) {
				t.Errorf("Encode of %v, %v: %v, %d", a, b, z, e)
			}
		}
	}
}

// IN3: all of it is written, or nothing, and then the fault is the first one.
func TestPut(t *testing.T) {
	want := plain(few())
	for room := range 90 {
		b := buffer.New(room)
		b.Num(1, 7)
		Put(b, few())
		Put(b, nil)
		Put(b, few()[2:])
		all, e := b.Done()
		switch need := 1 + len(want) + 8; {
		case room < need && (e != api.ErrLong || len(all) != 0):
			t.Errorf("room for %d: %v, %d", room, all, e)
		case room >= need && (e != api.OK || !slices.Equal(all, slices.Concat([]byte{7}, want, []byte{0, 1, 0, 8, 9, 0, 0, 0}))):
			t.Errorf("room for %d: %v, %d", room, all, e)
		}
	}
	// What may not be is ErrArg, even where there is no room, and a fault stays.
	for _, l := range [][]api.Ins{{{}}, append(few(), ins(Goto, 1, 0)), {ins(Goto, 255, 0)}, {long(65528), own(1)}} {
		for _, first := range []api.Errno{api.OK, api.BadLen, api.ErrLong} {
			b := buffer.New(0)
			b.Fail(first)
			Put(b, l)
			Put(b, few())
			if first == api.OK {
				first = api.ErrArg
			}
			if all, e := b.Done(); e != first || len(all) != 0 || b.Len() != 0 {
				t.Errorf("%v, %d, not %d; %d bytes", all, e, first, b.Len())
			}
		}
	}
	// What is held stays so, and what is written behind goes on.
	b := buffer.New(100)
	at := b.Hold(2)
	Put(b, few())
	b.Fill(at, uint64(b.Len()))
	if all, e := b.Done(); e != api.OK || !slices.Equal(all, append([]byte{0, byte(2 + len(want))}, want...)) {
		t.Errorf("behind what is held: %v, %d", all, e)
	}
}

// IN3: what is no buffer, or none that a call made, is not written to.
func TestPutNowhere(t *testing.T) {
	for _, l := range [][]api.Ins{nil, few(), {{}}, slices.Repeat(few(), 2)} {
		Put(nil, l)
		b := &buffer.Buffer{}
		Put(b, l)
		if all, e := b.Done(); e != api.ErrArg || len(all) != 0 || b.Len() != 0 {
			t.Errorf("%v, %d", all, e)
		}
	}
}

// IN3: of what is no cursor, none that a call made, or has a fault, there is nothing, and the fault stays.
func TestTakeNothing(t *testing.T) {
	if l := Take(nil); len(l) != 0 {
		t.Errorf("Take of nil: %v", l)
	}
	c := &cursor.Cursor{}
	if l := Take(c); len(l) != 0 || c.Err() != api.ErrArg || c.At() != 0 || c.Left() != 0 {
		t.Errorf("Take of one that no call made: %v, %d", l, c.Err())
	}
	for _, b := range [][]byte{nil, plain(few()), head(99, 8, 0, 0, 0, 0)} {
		for _, first := range []api.Errno{api.InsLen, api.BadLen, api.ErrArg, api.ErrShort} {
			c := behind(b)
			c.Fail(first)
			if l := Take(c); len(l) != 0 || c.Err() != first || c.At() != 3 || c.Left() != len(b) {
				t.Errorf("Take behind the fault %d: %v, %d, at %d", first, l, c.Err(), c.At())
			}
		}
	}
}

// IN3: all that is left is read, of the cursor's part alone; behind that nothing is left.
func TestTake(t *testing.T) {
	c := behind(plain(few()))
	if l := Take(c); !equal(l, few()) || c.Left() != 0 || c.Err() != api.OK {
		t.Errorf("Take: %v, %d", l, c.Err())
	}
	if l := Take(c); len(l) != 0 || c.Left() != 0 || c.Err() != api.OK {
		t.Errorf("Take of nothing: %v, %d", l, c.Err())
	}
	n := len(plain(few()[:1]))
	c = behind(plain(few()))
	s := c.Sub(n, api.BadLen, api.BadPacket)
	if l := Take(s); !equal(l, few()[:1]) || s.Left() != 0 || s.Err() != api.OK {
		t.Errorf("Take of a part: %v, %d", l, s.Err())
	}
	if l := Take(c); !equal(l, few()[1:]) || c.Left() != 0 || c.Err() != api.OK {
		t.Errorf("Take of what is left: %v, %d", l, c.Err())
	}
	c = behind(plain(few()))
	s = c.Sub(n-8, api.BadLen, api.BadPacket)
	if l := Take(s); len(l) != 0 || s.Err() != api.InsLen || s.At() != 0 || c.Err() != api.OK {
		t.Errorf("Take of too little: %v, %d", l, s.Err())
	}
	if l := Take(c); len(l) != 0 || c.Err() != api.InsLen || c.At() != 3+n-8 {
		t.Errorf("Take from the middle: %v, %d", l, c.Err())
	}
}

// IN3: A of the first Goto, whether the list may be or not.
func TestNext(t *testing.T) {
	for _, x := range []struct {
		l    []api.Ins
		want int
		ok   bool
	}{
		{nil, 0, false}, {[]api.Ins{}, 0, false}, {few(), 9, true}, {few()[:2], 0, false}, {every(), 254, true}, {[]api.Ins{ins(Goto, 0, 0)}, 0, true}, {[]api.Ins{ins(Goto, 7, 0), ins(Goto, 8, 0)}, 7, true}, {[]api.Ins{own(1), ins(Goto, 8, 0), ins(Goto, 7, 0)}, 8, true}, {[]api.Ins{ins(Goto, 255, 0)}, 255, true}, {[]api.Ins{{}, ins(Goto, 1<<40, 3)}, 1 << 40, true}, {[]api.Ins{ins(Goto, math.MaxInt64, 0)}, math.MaxInt64, true},
		{[]api.Ins{{}, ins(WriteMeta, 3, 3), with(Write), with(Apply), ins(Clear, 4, 0), ins(Meter, 5, 0), own(6)}, 0, false}, {[]api.Ins{ins(-1, 3, 0), ins(65537, 4, 0), ins(1<<32|1, 5, 0), ins(0, 1, 0), ins(256, 1, 0)}, 0, false}, {few()[:2:3], 0, false},
	} {
		if n, ok := Next(x.l); n != x.want || ok != x.ok {
			t.Errorf("Next of %v: %d, %v; not %d, %v", x.l, n, ok, x.want, x.ok)
		}
	}
}

// others are lists of which each differs from the first one in one thing.
func others() [][]api.Ins {
	a := api.Act{Type: 25, A: 3, B: 4, Set: api.Oxm{Class: 5, Field: 7, Has: true, Exp: 9, Value: []byte{1, 2}, Mask: []byte{3, 4}}, Data: []byte{5, 6}}
	one := []api.Ins{{Type: 3, A: 1, B: 2, Acts: []api.Act{a, out(5)}, Data: []byte{7, 8}}, ins(Goto, 5, 0), {}}
	l := [][]api.Ins{one, nil, one[:1], one[:2], one[1:], append(clone(one), api.Ins{}), {one[1], one[0], one[2]}, {one[0], one[2], one[1]}, {one[0], one[0], one[2]}, {one[0], one[1], one[1]}}
	for i := range one {
		for _, change := range []func(x *api.Ins){
			func(x *api.Ins) { x.Type = 24 },
			func(x *api.Ins) { x.Type += 1 << 32 },
			func(x *api.Ins) { x.A++ },
			func(x *api.Ins) { x.A += 1 << 32 },
			func(x *api.Ins) { x.B++ },
			func(x *api.Ins) { x.B += 1 << 63 },
			func(x *api.Ins) { x.Acts = append(slices.Clone(x.Acts), api.Act{}) },
			func(x *api.Ins) { x.Acts = append([]api.Act{out(6)}, x.Acts...) },
			func(x *api.Ins) { x.Data = append(slices.Clone(x.Data), 0) },
			func(x *api.Ins) { x.Data = slices.Concat([]byte{7}, x.Data) },
		} {
			x := clone(one)
			change(&x[i])
			l = append(l, x)
		}
	}
	for _, change := range []func(a []api.Act){
		func(a []api.Act) { a[0].Type++ },
		func(a []api.Act) { a[0].B++ },
		func(a []api.Act) { a[0].Set.Exp++ },
		func(a []api.Act) { a[0].Set.Has = false },
		func(a []api.Act) { a[0].Set.Value[1]++ },
		func(a []api.Act) { a[0].Set.Mask[0]++ },
		func(a []api.Act) { a[0].Data[0]++ },
		func(a []api.Act) { a[1].A++ },
		func(a []api.Act) { a[0], a[1] = a[1], a[0] },
	} {
		x := clone(one)
		change(x[0].Acts)
		l = append(l, x)
	}
	return l
}

// IN3: two are the same just if they have as many instructions, each the same in the same place, whether they may be or not.
func TestSame(t *testing.T) {
	for _, all := range [][][]api.Ins{others(), samples()} {
		for i, a := range all {
			for j, b := range all {
				if Same(a, clone(b)) != (i == j) {
					t.Errorf("Same of %v, %v: %v", a, b, Same(a, b))
				}
			}
		}
	}
	if !Same(nil, []api.Ins{}) || !Same([]api.Ins{}, nil) || !Same(few()[:0], nil) || !Same([]api.Ins{{}}, []api.Ins{{Data: []byte{}, Acts: []api.Act{}}}) {
		t.Error("nil and empty are not the same")
	}
	if !Same(few()[:1], []api.Ins{few()[0], {}}[:1]) || !Same([]api.Ins{own(1, []byte{8, 0, 1}[:2]...)}, []api.Ins{own(1, 8, 0)}) || !Same([]api.Ins{with(Write, []api.Act{out(1), out(2)}[:1]...)}, []api.Ins{with(Write, out(1))}) {
		t.Error("what lies behind is looked at")
	}
}

// IN3: a copy is the same, whether the list may be or not, in memory of its own.
func TestCopy(t *testing.T) {
	for _, l := range slices.Concat(others(), samples(), [][]api.Ins{{}, wrongIns(), slices.Repeat([]api.Ins{own(1, 2)}, 300), {long(65528), long(65528)}}) {
		l = append(make([]api.Ins, 0, len(l)+2), l...)
		was := clone(l)
		c := Copy(l)
		if !equal(c, was) || !equal(l, was) {
			t.Errorf("Copy of %v: %v", was, c)
		}
		spoil(c)
		_ = append(c, own(1), own(2))
		if !equal(l, was) || !equal(l[:cap(l)][len(l):], []api.Ins{{}, {}}) {
			t.Errorf("who changed a copy of %v changed it to %v", was, l[:cap(l)])
		}
		l = clone(was)
		c = Copy(l)
		spoil(l)
		if !equal(c, was) {
			t.Errorf("who changed %v changed its copy to %v", was, c)
		}
	}
}

// apart asks that no two lists of an answer share memory: who changes one changes no other.
func apart(t *testing.T, l []api.Ins) {
	t.Helper()
	was, all := lists(clone(l)), lists(l)
	for i, b := range all {
		flip(b[:cap(b)])
		for j := range all {
			if j != i && !slices.Equal(all[j], was[j]) {
				t.Errorf("who changed the list %d changed %d: %v", i, j, l)
			}
		}
		flip(b[:cap(b)])
	}
	before := clone(l)
	for i := range l {
		mine := l[i].Acts
		for j := range mine[:cap(mine)] {
			mine[:cap(mine)][j].B ^= 1 << 63
		}
		for j := range l {
			if j != i && !equalOne(l[j], before[j]) {
				t.Errorf("who changed the actions of %d changed %d: %v", i, j, l)
			}
		}
		for j := range mine[:cap(mine)] {
			mine[:cap(mine)][j].B ^= 1 << 63
		}
	}
}

// IN1, IN2, IN3: what is answered is new memory, and no two lists of it share any.
func TestNewMemory(t *testing.T) {
	for _, want := range samples() {
		b := append(plain(want), 7, 7, 7, 7)
		own := b[:len(b)-4]
		c := cursor.New(own, api.ErrShort, api.ErrState)
		first, _ := Decode(own)
		second, _ := Decode(own)
		third, fourth := Take(c), []api.Ins(nil)
		for _, l := range [][]api.Ins{first, second, third} {
			fourth = Copy(l)
			apart(t, fourth)
		}
		clear(b)
		for _, l := range [][]api.Ins{first, second, third, fourth} {
			if !equal(l, want) {
				t.Errorf("who changed the bytes changed %v to %v", want, l)
			}
			apart(t, l)
		}
		x, _ := Encode(second)
		y, _ := Encode(second)
		spoil(first)
		flip(x[:cap(x)])
		if !equal(second, want) || !equal(third, want) || !equal(fourth, want) || !slices.Equal(y, plain(want)) {
			t.Errorf("who changed one answer changed another to %v, %v, %v, %v", second, third, fourth, y)
		}
	}
	// The lists that are handed in may share memory; those of the copy do not.
	shared, two := []byte{8, 0, 9, 9}, []api.Act{out(1), out(2)}
	apart(t, Copy([]api.Ins{own(1, shared[:2]...), own(2, shared[:3]...), with(Write, two[:1]...), with(Apply, two...), with(Write, api.Act{Data: shared, Set: api.Oxm{Value: shared[:2], Mask: shared[:2]}})}))
	if !slices.Equal(shared, []byte{8, 0, 9, 9}) || !equalAct(two[0], out(1)) || !equalAct(two[1], out(2)) {
		t.Errorf("Copy changed what is handed in to %v, %v", shared, two)
	}
}

// IN1, IN2, IN3: what lies behind a list's length, or behind that of bytes, is neither read nor written.
func TestBehindInMemory(t *testing.T) {
	l := append(few(), api.Ins{}, ins(Goto, 9, 0))
	right(t, l[:3])
	right(t, l[:1])
	wrongOne(t, l)
	if !equal(l, append(few(), api.Ins{}, ins(Goto, 9, 0))) {
		t.Errorf("%v", l)
	}
	more := []api.Act{out(1), {}, out(0)}
	data := []byte{1, 2, 3, 4, 5, 6, 7, 8, 9}
	right(t, []api.Ins{with(Write, more[:1]...), own(1, data[:8]...), with(Apply, more[:0]...)})
	wrongOne(t, []api.Ins{with(Write, more...)})
	wrongOne(t, []api.Ins{own(1, data...)})
	if !equalAct(more[1], api.Act{}) || !equalAct(more[2], out(0)) || data[8] != 9 {
		t.Errorf("%v, %v", more, data)
	}
	n := len(plain(few()))
	b := append(plain(few()), 77, 77)
	got(t, b[:n], few())
	got(t, b[:n-8], few()[:2])
	notGot(t, b[:n-1], api.InsLen)
	notGot(t, b, api.InsLen)
	if !slices.Equal(b, append(plain(few()), 77, 77)) {
		t.Errorf("%v", b)
	}
}

// toldAct is an action, told by two numbers: most may be.
func toldAct(kind, a byte) api.Act {
	switch kind % 8 {
	case 0, 1:
		return out(uint64(a))
	case 2:
		return setEth(a)
	case 3:
		return api.Act{Type: action.Group, A: uint64(a) << 24}
	case 4:
		return longAct(8 + int(a)*8)
	case 5:
		return api.Act{Type: int(a % 28)}
	}
	return pop()
}

// told is an instruction, told by three numbers: most may be.
func told(kind, a, more byte) api.Ins {
	switch kind % 12 {
	case 0:
		return ins(Goto, uint64(a), uint64(more/255))
	case 1:
		return ins(WriteMeta, uint64(a&more)<<(a%57), (uint64(a)|uint64(more))<<(a%57))
	case 2:
		return ins(WriteMeta, uint64(a), uint64(more))
	case 3, 4:
		return with(Write, slices.Repeat([]api.Act{toldAct(a, more)}, int(more%67))...)
	case 5, 6:
		return with(Apply, toldAct(a, more), toldAct(more, a))
	case 7:
		return ins(Clear, uint64(a/250), uint64(more/250))
	case 8:
		return ins(Meter, uint64(a)<<(more%26), 0)
	case 9:
		return own(uint64(a)<<25, slices.Repeat([]byte{a}, int(more))...)
	case 10:
		return long(8 + 8*int(a)*int(more%32))
	}
	return api.Ins{Type: int(a % 9), A: uint64(more / 128), Data: make([]byte, more%2*8)}
}

// IN1, IN2, IN3, IN4: lists by the thousand are what the chapter's words tell; enough of them may be.
func TestManyLists(t *testing.T) {
	r := rand.New(rand.NewSource(15))
	fine, twice, longer := 0, 0, 0
	for range 3000 {
		var l []api.Ins
		if r.Intn(10) == 0 {
			l = append(l, long(65528-8*r.Intn(30)))
		}
		for n := r.Intn(10); len(l) < n; {
			x := told(byte(r.Intn(256)), byte(r.Intn(256)), byte(r.Intn(256)))
			// Most of what may not be is left out, so that lists that may be are long.
			if mayOne(x) && (r.Intn(3) == 0 || mayList(append(slices.Clone(l), x))) || r.Intn(40) == 0 {
				l = append(l, x)
			}
		}
		asked(t, l, mayList(l))
		held(t, plain(l))
		if mayList(l) && len(l) > 2 {
			fine++
		}
		switch _, e := decoded(plain(l)); {
		case e == api.InsTwice:
			twice++
		case e == api.InsLen && len(plain(l)) > 65528:
			longer++
		}
	}
	if fine < 400 || twice < 100 || longer < 50 {
		t.Errorf("%d lists alone may be, %d have a type twice, %d have too many bytes", fine, twice, longer)
	}
}

// IN2, IN3, IN4: whatever the bytes, they are what the chapter's clauses tell, and again those bytes.
func FuzzDecode(f *testing.F) {
	for _, l := range samples() {
		f.Add(plain(l))
	}
	f.Add([]byte{0, 1, 0, 8, 255, 0, 0, 0})
	f.Add([]byte{0, 5, 0, 8, 0, 0, 0, 0, 0, 5, 0, 8, 0, 0, 0, 0})
	f.Fuzz(func(t *testing.T, b []byte) {
		held(t, b)
		held(t, slices.Concat(plain(few()), b))
		held(t, slices.Concat(plain([]api.Ins{long(65520)}), b))
	})
}

// IN1, IN2, IN3: whatever a list has, it is what the chapter's words tell.
func FuzzLists(f *testing.F) {
	f.Add([]byte{})
	f.Add([]byte{0, 1, 0, 2, 2, 2, 6, 0, 0, 8, 3, 4})
	f.Add([]byte{10, 255, 31, 10, 9, 1, 4, 1, 255})
	f.Fuzz(func(t *testing.T, b []byte) {
		var l []api.Ins
		for i := 0; i+3 <= min(len(b), 60); i += 3 {
			l = append(l, told(b[i], b[i+1], b[i+2]))
		}
		asked(t, l, mayList(l))
		held(t, plain(l))
	})
}
