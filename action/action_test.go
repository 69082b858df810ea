package action

import (
	"bytes"
	"math"
	"math/rand"
	"slices"
	"testing"

	"gunwale/api"
	"gunwale/field"
	"gunwale/oxm"
)

// basic is a value without a mask.
func basic(n int, value ...byte) api.Oxm {
	return api.Oxm{Class: api.Basic, Field: n, Value: value}
}

// masked is the same with a mask.
func masked(o api.Oxm, mask ...byte) api.Oxm {
	o.Has, o.Mask = true, mask
	return o
}

// extra is a value of the class Extra.
func extra(n int, exp uint64, value ...byte) api.Oxm {
	return api.Oxm{Class: api.Extra, Field: n, Exp: exp, Value: value}
}

// full is a value of a field, all its bits 1 that may be.
func full(n int) api.Oxm {
	f, _ := field.Of(n)
	value := slices.Repeat([]byte{255}, f.Size)
	if f.Bits%8 != 0 {
		// None has a whole byte too many, but for the two of 20 bits in 4 bytes.
		value = append(make([]byte, f.Size-(f.Bits+7)/8), value[:(f.Bits+7)/8]...)
		value[f.Size-(f.Bits+7)/8] >>= 8 - f.Bits%8
	}
	return basic(n, value...)
}

// act is an action with numbers alone.
func act(kind int, a, b uint64) api.Act { return api.Act{Type: kind, A: a, B: b} }

// set is an action that sets a field.
func set(o api.Oxm) api.Act { return api.Act{Type: SetField, Set: o} }

// own is an experimenter's action.
func own(a uint64, data ...byte) api.Act { return api.Act{Type: Experiment, A: a, Data: data} }

// equalOne holds two values against one another without oxm.
func equalOne(a, b api.Oxm) bool {
	return a.Class == b.Class && a.Field == b.Field && a.Has == b.Has && a.Exp == b.Exp && slices.Equal(a.Value, b.Value) && slices.Equal(a.Mask, b.Mask)
}

// equal holds two actions against one another without Same.
func equal(a, b api.Act) bool {
	return a.Type == b.Type && a.A == b.A && a.B == b.B && equalOne(a.Set, b.Set) && slices.Equal(a.Data, b.Data)
}

// lists are all lists of an action.
func lists(a api.Act) [][]byte { return [][]byte{a.Set.Value, a.Set.Mask, a.Data} }

// clone is a copy without Copy.
func clone(a api.Act) api.Act {
	a.Set.Value, a.Set.Mask, a.Data = slices.Clone(a.Set.Value), slices.Clone(a.Set.Mask), slices.Clone(a.Data)
	return a
}

// flip changes all bits.
func flip(b []byte) {
	for i := range b {
		b[i] ^= 255
	}
}

// spoil changes all bytes of an action's lists, and what lies behind them in memory.
func spoil(a api.Act) {
	for _, b := range lists(a) {
		flip(b[:cap(b)])
	}
}

// kind is a row of the chapter's table: how many bytes A, B and the zeros behind them have.
type kind struct{ a, b, zeros int }

// kinds are all types but SetField.
func kinds() map[int]kind {
	return map[int]kind{
		0: {4, 2, 6}, 22: {a: 4}, 21: {a: 4}, 15: {1, 0, 3}, 23: {1, 0, 3},
		11: {zeros: 4}, 12: {zeros: 4}, 16: {zeros: 4}, 18: {zeros: 4}, 24: {zeros: 4}, 27: {zeros: 4},
		17: {2, 0, 2}, 19: {2, 0, 2}, 26: {2, 0, 2}, 20: {2, 0, 2}, 65535: {a: 4},
	}
}

// types are all types, the lowest first.
func types() []int {
	return []int{0, 11, 12, 15, 16, 17, 18, 19, 20, 21, 22, 23, 24, 25, 26, 27, 65535}
}

// hasRoom tells whether a number has room in so many bytes; in none only 0 has.
func hasRoom(n uint64, width int) bool { return n < 1<<(8*width) }

// number is a number in so many bytes, the highest first.
func number(n uint64, width int) []byte {
	b := []byte{byte(n >> 24), byte(n >> 16), byte(n >> 8), byte(n)}
	return b[4-width:]
}

// asks is the error of what is asked of an action's numbers, by the chapter's table.
func asks(a api.Act) api.Errno {
	switch {
	case a.Type == 0 && a.A == 0:
		return api.ActPort
	case a.Type == 22 && a.A > 0xffffff00:
		return api.ActGroup
	case a.Type == 17 && a.A != 0x8100 && a.A != 0x88a8, a.Type == 19 && a.A != 0x8847 && a.A != 0x8848, a.Type == 26 && a.A != 0x88e7:
		return api.ActArg
	}
	return api.OK
}

// mayBe is Right, told as the chapter words it.
func mayBe(a api.Act) bool {
	if a.Type == 25 {
		return a.A == 0 && a.B == 0 && len(a.Data) == 0 && a.Set.Class == 0x8000 && !a.Set.Has && oxm.Right(a.Set) && field.Settable(a.Set.Field)
	}
	k, ok := kinds()[a.Type]
	return ok && hasRoom(a.A, k.a) && hasRoom(a.B, k.b) && asks(a) == api.OK && equalOne(a.Set, api.Oxm{}) &&
		(len(a.Data) == 0 || a.Type == 65535 && len(a.Data)%8 == 0 && 8+len(a.Data) <= 65528)
}

// framed is a type, a length, and what is behind it, with zeros to a multiple of 8.
func framed(kind int, b ...byte) []byte {
	for len(b)%8 != 4 {
		b = append(b, 0)
	}
	n := 4 + len(b)
	return append([]byte{byte(kind >> 8), byte(kind), byte(n >> 8), byte(n)}, b...)
}

// body is the bytes of a value without a mask, of the class Basic.
func body(o api.Oxm) []byte {
	return append([]byte{128, 0, byte(2 * o.Field), byte(len(o.Value))}, o.Value...)
}

// plain is the bytes of an action, told as plainly as can be.
func plain(a api.Act) []byte {
	if a.Type == 25 {
		return framed(25, body(a.Set)...)
	}
	k := kinds()[a.Type]
	return framed(a.Type, slices.Concat(number(a.A, k.a), number(a.B, k.b), make([]byte, k.zeros), a.Data)...)
}

// anyOdd tells whether a byte is not 0.
func anyOdd(b []byte) bool {
	return slices.ContainsFunc(b, func(x byte) bool { return x != 0 })
}

// told is the number that bytes are.
func told(b []byte) uint64 {
	n := uint64(0)
	for _, x := range b {
		n = 256*n + uint64(x)
	}
	return n
}

// decoded is Decode, told clause by clause as the chapter lists them.
func decoded(b []byte) (api.Act, int, api.Errno) {
	if len(b) < 4 {
		return api.Act{}, 0, api.ActLen
	}
	kind, n := int(told(b[:2])), int(told(b[2:4]))
	if n < 8 || n%8 != 0 || len(b) < n {
		return api.Act{}, 0, api.ActLen
	}
	if kind == 25 {
		return decodedSet(b[4:n])
	}
	k, ok := kinds()[kind]
	size := 4 + k.a + k.b + k.zeros
	switch {
	case !ok:
		return api.Act{}, 0, api.ActType
	case kind != 65535 && n != size:
		return api.Act{}, 0, api.ActLen
	case anyOdd(b[size-k.zeros : size]):
		return api.Act{}, 0, api.ActArg
	}
	a := api.Act{Type: kind, A: told(b[4 : 4+k.a]), B: told(b[4+k.a : 4+k.a+k.b]), Data: b[size:n]}
	if e := asks(a); e != api.OK {
		return api.Act{}, 0, e
	}
	return a, n, api.OK
}

// decodedSet is the same of what is behind the length of a SetField.
func decodedSet(b []byte) (api.Act, int, api.Errno) {
	o, n, e := oxm.Decode(b)
	switch {
	case e == api.MatchLen:
		return api.Act{}, 0, api.SetLen
	case e == api.MatchField:
		return api.Act{}, 0, api.SetType
	case e != api.OK:
		return api.Act{}, 0, api.SetArg
	case o.Class == 65535, o.Field <= 2, o.Field == 39:
		return api.Act{}, 0, api.SetType
	case o.Has:
		return api.Act{}, 0, api.SetArg
	case 4+len(b) != (4+n+7)/8*8:
		return api.Act{}, 0, api.SetLen
	case anyOdd(b[n:]):
		return api.Act{}, 0, api.SetArg
	}
	return set(o), 4 + len(b), api.OK
}

// right asks for an action that may be: its bytes, and, of these, for itself, whatever is behind; and that none of this changes what is handed in.
func right(t *testing.T, a api.Act) {
	t.Helper()
	was, want := clone(a), plain(a)
	if !Right(a) || Size(a) != len(want) {
		t.Errorf("Right of %v: %v, of the size %d, not %d", a, Right(a), Size(a), len(want))
	}
	if b, e := Encode(a); e != api.OK || !slices.Equal(b, want) {
		t.Errorf("Encode of %v: %v, %d; not %v", a, b, e, want)
	}
	for _, behind := range [][]byte{nil, {0}, {255}, {0, 0, 0, 16, 0, 0, 0, 3}, make([]byte, 300)} {
		got(t, slices.Concat(want, behind), was)
	}
	same(t, a, was)
}

// wrongOne asks for an action that may not be.
func wrongOne(t *testing.T, a api.Act) {
	t.Helper()
	was := clone(a)
	if Right(a) || Size(a) != 0 {
		t.Errorf("Right of %v: %v, of the size %d", a, Right(a), Size(a))
	}
	if b, e := Encode(a); e != api.ErrArg || len(b) != 0 {
		t.Errorf("Encode of %v: %v, %d", a, b, e)
	}
	same(t, a, was)
}

// same asks for a copy, and that an action is still what it was.
func same(t *testing.T, a, was api.Act) {
	t.Helper()
	if c := Copy(a); !equal(c, was) || !Same(c, a) || !Same(a, c) {
		t.Errorf("Copy of %v: %v", a, c)
	}
	if !equal(a, was) {
		t.Errorf("%v was changed to %v", was, a)
	}
}

// asked asks for an action, which may be or not.
func asked(t *testing.T, a api.Act, may bool) {
	t.Helper()
	if may {
		right(t, a)
	} else {
		wrongOne(t, a)
	}
}

// got asks Decode for an action.
func got(t *testing.T, b []byte, want api.Act) {
	t.Helper()
	was, size := slices.Clone(b), len(plain(want))
	if a, n, e := Decode(b); e != api.OK || n != size || !equal(a, want) {
		t.Errorf("Decode of %v: %v, %d, %d; not %v, %d", b, a, n, e, want, size)
	}
	if !slices.Equal(b, was) {
		t.Errorf("Decode changed %v to %v", was, b)
	}
}

// notGot asks Decode for an error, and nothing beside it.
func notGot(t *testing.T, b []byte, want api.Errno) {
	t.Helper()
	was := slices.Clone(b)
	if a, n, e := Decode(b); e != want || n != 0 || !equal(a, api.Act{}) {
		t.Errorf("Decode of %v: %v, %d, %d; not %d", b, a, n, e, want)
	}
	if !slices.Equal(b, was) {
		t.Errorf("Decode changed %v to %v", was, b)
	}
}

// held asks Decode for what the chapter's clauses tell of bytes; what is decoded may be, and is those bytes.
func held(t *testing.T, b []byte) {
	t.Helper()
	a, n, e := decoded(b)
	if e != api.OK {
		notGot(t, b, e)
		return
	}
	got(t, b, a)
	again, e := Encode(a)
	if !Right(a) || Size(a) != n || e != api.OK || !slices.Equal(again, b[:n]) {
		t.Errorf("Encode of what %v is: %v, %d", b, again, e)
	}
}

// The chapter's example, and those of the whole that are about an action.
func TestExample(t *testing.T) {
	b := []byte{0, 0, 0, 16, 0, 0, 0, 3, 255, 255, 0, 0, 0, 0, 0, 0}
	got(t, b, act(Output, 3, 65535))
	right(t, act(Output, 3, 65535))
	notGot(t, framed(Output, 0, 0, 0, 0, 255, 255), api.ActPort)
	notGot(t, framed(SetField, 128, 0, 6, 6, 1, 2, 3, 4, 5, 6, 0, 1), api.SetArg)
	right(t, set(basic(3, 1, 2, 3, 4, 5, 6)))
}

// AC1, AC2: bytes of each type spelt out, both ways.
func TestBytes(t *testing.T) {
	for _, x := range []struct {
		a api.Act
		b []byte
	}{
		{act(0, 0x01020304, 0x0506), []byte{0, 0, 0, 16, 1, 2, 3, 4, 5, 6, 0, 0, 0, 0, 0, 0}},
		{act(11, 0, 0), []byte{0, 11, 0, 8, 0, 0, 0, 0}},
		{act(12, 0, 0), []byte{0, 12, 0, 8, 0, 0, 0, 0}},
		{act(15, 64, 0), []byte{0, 15, 0, 8, 64, 0, 0, 0}},
		{act(16, 0, 0), []byte{0, 16, 0, 8, 0, 0, 0, 0}},
		{act(17, 33024, 0), []byte{0, 17, 0, 8, 129, 0, 0, 0}},
		{act(17, 34984, 0), []byte{0, 17, 0, 8, 136, 168, 0, 0}},
		{act(18, 0, 0), []byte{0, 18, 0, 8, 0, 0, 0, 0}},
		{act(19, 34887, 0), []byte{0, 19, 0, 8, 136, 71, 0, 0}},
		{act(19, 34888, 0), []byte{0, 19, 0, 8, 136, 72, 0, 0}},
		{act(20, 2048, 0), []byte{0, 20, 0, 8, 8, 0, 0, 0}},
		{act(21, 0x01020304, 0), []byte{0, 21, 0, 8, 1, 2, 3, 4}},
		{act(22, 4294967040, 0), []byte{0, 22, 0, 8, 255, 255, 255, 0}},
		{act(23, 255, 0), []byte{0, 23, 0, 8, 255, 0, 0, 0}},
		{act(24, 0, 0), []byte{0, 24, 0, 8, 0, 0, 0, 0}},
		{set(basic(3, 1, 2, 3, 4, 5, 6)), []byte{0, 25, 0, 16, 128, 0, 6, 6, 1, 2, 3, 4, 5, 6, 0, 0}},
		{set(basic(14, 0, 80)), []byte{0, 25, 0, 16, 128, 0, 28, 2, 0, 80, 0, 0, 0, 0, 0, 0}},
		{set(basic(38, 1, 2, 3, 4, 5, 6, 7, 8)), []byte{0, 25, 0, 16, 128, 0, 76, 8, 1, 2, 3, 4, 5, 6, 7, 8}},
		{act(26, 35047, 0), []byte{0, 26, 0, 8, 136, 231, 0, 0}},
		{act(27, 0, 0), []byte{0, 27, 0, 8, 0, 0, 0, 0}},
		{own(0x01020304), []byte{255, 255, 0, 8, 1, 2, 3, 4}},
		{own(7, 1, 2, 3, 4, 5, 6, 7, 8), []byte{255, 255, 0, 16, 0, 0, 0, 7, 1, 2, 3, 4, 5, 6, 7, 8}},
	} {
		if b, e := Encode(x.a); e != api.OK || !slices.Equal(b, x.b) {
			t.Errorf("Encode of %v: %v, %d; not %v", x.a, b, e, x.b)
		}
		if a, n, e := Decode(x.b); e != api.OK || n != len(x.b) || !equal(a, x.a) {
			t.Errorf("Decode of %v: %v, %d, %d; not %v", x.b, a, n, e, x.a)
		}
		right(t, x.a)
	}
}

// edges are numbers about all that have room, and all that is asked.
func edges() []uint64 {
	l := []uint64{0}
	for _, n := range []uint64{1, 2, 255, 256, 2048, 33024, 34887, 34888, 34984, 35047, 65535, 65536, 1 << 24, 0xffffff00, 0xffffffff, 1 << 32, 1<<32 + 3, 1<<32 + 33024, 1 << 40, 1 << 63, math.MaxUint64} {
		l = append(l, n-1, n, n+1)
	}
	return l
}

// AC1: each type, with each number at and about the edges of its room, and of what is asked of it.
func TestNumbers(t *testing.T) {
	for _, kind := range types() {
		for _, a := range edges() {
			for _, b := range edges() {
				x := act(kind, a, b)
				asked(t, x, mayBe(x))
			}
			x := set(full(3))
			x.Type, x.A = kind, a
			asked(t, x, kind == 25 && a == 0)
		}
	}
}

// AC1: what is asked of a number, and no more.
func TestAsked(t *testing.T) {
	for _, x := range []struct {
		kind int
		a    uint64
		want bool
	}{
		{Output, 0, false}, {Output, 1, true}, {Output, 0xfffffff8, true}, {Output, 0xffffffff, true}, {Output, 1 << 32, false},
		{Group, 0, true}, {Group, 4294967040, true}, {Group, 4294967041, false}, {Group, 0xffffffff, false}, {Group, 1 << 32, false},
		{SetQueue, 0, true}, {SetQueue, 0xffffffff, true}, {SetQueue, 1 << 32, false},
		{SetMplsTtl, 0, true}, {SetMplsTtl, 255, true}, {SetMplsTtl, 256, false}, {SetTtl, 0, true}, {SetTtl, 255, true}, {SetTtl, 256, false},
		{CopyOut, 1, false}, {CopyIn, 1, false}, {DecMplsTtl, 1, false}, {PopVlan, 1, false}, {DecTtl, 1, false}, {PopPbb, 1, false},
		{PushVlan, 0, false}, {PushVlan, 33024, true}, {PushVlan, 34984, true}, {PushVlan, 34887, false}, {PushVlan, 34888, false}, {PushVlan, 35047, false}, {PushVlan, 65536 + 33024, false},
		{PushMpls, 0, false}, {PushMpls, 33024, false}, {PushMpls, 34984, false}, {PushMpls, 34887, true}, {PushMpls, 34888, true}, {PushMpls, 35047, false}, {PushMpls, 65536 + 34887, false},
		{PushPbb, 0, false}, {PushPbb, 33024, false}, {PushPbb, 34984, false}, {PushPbb, 34887, false}, {PushPbb, 34888, false}, {PushPbb, 35047, true}, {PushPbb, 65536 + 35047, false},
		{PopMpls, 0, true}, {PopMpls, 65535, true}, {PopMpls, 65536, false},
		{Experiment, 0, true}, {Experiment, 0xffffffff, true}, {Experiment, 1 << 32, false},
	} {
		asked(t, act(x.kind, x.a, 0), x.want)
	}
}

// AC1, AC2: of all numbers, those of the table alone are types.
func TestTypes(t *testing.T) {
	for kind := -1; kind < 65540; kind++ {
		x := act(kind, 33024, 0)
		if Right(x) != mayBe(x) || !Right(x) && Size(x) != 0 {
			t.Errorf("Right of %v: %v", x, Right(x))
		}
		if kind < 0 || kind > 65535 {
			continue
		}
		want := api.ActType
		if slices.Contains(types(), kind) {
			_, _, want = decoded(framed(kind, 129, 0, 0, 0))
		}
		notType(t, kind, framed(kind, 129, 0, 0, 0), want)
		if want == api.ActType {
			notType(t, kind, framed(kind, make([]byte, 12)...), want)
			notType(t, kind, framed(kind, 255, 255, 255, 255, 255), want)
			// A length that may not be comes ahead of it.
			notType(t, kind, framed(kind, 129, 0, 0, 0)[:7], api.ActLen)
		}
	}
	for _, kind := range []int{math.MinInt, -65536, -65535, -1, 65536, 65536 + 25, 1<<32 + 22, 1<<32 + 65535, math.MaxInt} {
		wrongOne(t, act(kind, 1, 0))
		wrongOne(t, act(kind, 0, 0))
		x := set(full(3))
		x.Type = kind
		wrongOne(t, x)
	}
}

// notType asks Decode for an error alone.
func notType(t *testing.T, kind int, b []byte, want api.Errno) {
	t.Helper()
	if _, _, e := Decode(b); e != want {
		t.Errorf("Decode of the type %d: %d, not %d", kind, e, want)
	}
}

// AC1: what a type has not must be 0, or empty; a list with one byte, even if that is 0, is not.
func TestBare(t *testing.T) {
	for _, a := range samples() {
		right(t, a)
		for _, change := range []func(a *api.Act){
			func(a *api.Act) { a.A += 1 << 32 },
			func(a *api.Act) { a.A += 1 << 63 },
			func(a *api.Act) { a.B += 1 << 16 },
			func(a *api.Act) { a.B += 1 << 63 },
			func(a *api.Act) { a.Set.Class = api.Extra },
			func(a *api.Act) { a.Set.Class++ },
			func(a *api.Act) { a.Set.Field += 64 },
			func(a *api.Act) { a.Set.Field -= 64 },
			func(a *api.Act) { a.Set.Has = true },
			func(a *api.Act) { a.Set.Exp++ },
			func(a *api.Act) { a.Set.Value = append(slices.Clone(a.Set.Value), 0) },
			func(a *api.Act) { a.Set.Mask = []byte{0} },
			func(a *api.Act) { a.Data = append(slices.Clone(a.Data), 0) },
		} {
			x := clone(a)
			change(&x)
			wrongOne(t, x)
		}
		for _, change := range []func(a *api.Act){
			func(a *api.Act) { a.A++ },
			func(a *api.Act) { a.A = 0 },
			func(a *api.Act) { a.B++ },
			func(a *api.Act) { a.Set.Class = api.Basic },
			func(a *api.Act) { a.Set = full(3) },
			func(a *api.Act) { a.Data = append(slices.Clone(a.Data), make([]byte, 8)...) },
			func(a *api.Act) { a.Data, a.Set.Value = []byte{}, append([]byte{}, a.Set.Value...) },
			func(a *api.Act) { a.Set.Mask = []byte{} },
		} {
			x := clone(a)
			change(&x)
			asked(t, x, mayBe(x))
		}
	}
}

// AC1, AC2: each field, with values of each length, and with a mask.
func TestEachField(t *testing.T) {
	for n := -2; n < 130; n++ {
		f, there := field.Of(n)
		may := there && n > 2 && n != 39
		asked(t, set(full(n)), may)
		asked(t, set(basic(n, make([]byte, f.Size)...)), may)
		for size := range 30 {
			asked(t, set(basic(n, make([]byte, size)...)), may && size == f.Size)
			wrongOne(t, set(extra(n, 0, make([]byte, size)...)))
			wrongOne(t, set(masked(basic(n, make([]byte, size)...), slices.Repeat([]byte{1}, size)...)))
		}
		if n < 0 || n > 127 {
			continue
		}
		held(t, framed(SetField, body(full(n))...))
		for size := range 30 {
			zeros, ones := make([]byte, size), slices.Repeat([]byte{1}, size)
			held(t, framed(SetField, body(basic(n, zeros...))...))
			held(t, framed(SetField, append([]byte{128, 0, byte(2*n + 1), byte(2 * size)}, slices.Concat(zeros, ones)...)...))
			held(t, framed(SetField, append([]byte{255, 255, byte(2 * n), byte(4 + size), 0, 0, 0, 1}, zeros...)...))
			held(t, framed(SetField, append([]byte{255, 255, byte(2*n + 1), byte(4 + 2*size), 0, 0, 0, 1}, slices.Concat(zeros, slices.Repeat([]byte{1}, size))...)...))
		}
	}
}

// AC1: a value that may not be, or not be set, makes no action.
func TestSet(t *testing.T) {
	lone, foreign := full(3), full(3)
	lone.Mask, foreign.Exp = make([]byte, 6), 1
	has := full(5)
	has.Has = true
	for _, o := range []api.Oxm{{}, {Class: api.Basic}, {Class: api.Basic, Field: 3}, lone, foreign, has, basic(7, 8), basic(6, 32, 0), basic(28, 0, 16, 0, 0), basic(36, 2), basic(8, 64), basic(9, 4),
		masked(full(3), 255, 255, 255, 255, 255, 255), masked(basic(3, 1, 0, 0, 0, 0, 0), 1, 0, 0, 0, 0, 0), masked(basic(11, 10, 0, 0, 0), 255, 0, 0, 0), extra(3, 0, 1, 2, 3, 4, 5, 6), extra(0, 0), masked(extra(3, 1, 1), 3),
		{Class: 1<<32 + api.Basic, Field: 3, Value: make([]byte, 6)}, {Class: -api.Basic, Field: 3, Value: make([]byte, 6)}, {Class: 0, Field: 3, Value: make([]byte, 6)}, {Class: api.Basic, Field: 3 + 1<<32, Value: make([]byte, 6)}} {
		wrongOne(t, set(o))
	}
	for _, o := range []api.Oxm{basic(7, 7), basic(6, 31, 255), basic(6, 0, 0), basic(28, 0, 15, 255, 255), basic(36, 1), basic(8, 63), basic(9, 3), basic(37, 1, 2, 3), full(26), full(31)} {
		right(t, set(o))
	}
}

// AC1, AC2: an experimenter's bytes, by their number, up to the greatest length, and beyond it.
func TestExperiment(t *testing.T) {
	for n := range 100 {
		asked(t, own(7, slices.Repeat([]byte{255}, n)...), n%8 == 0)
	}
	for n := 65500; n < 65560; n++ {
		asked(t, own(math.MaxUint32, slices.Repeat([]byte{1}, n)...), n == 65504 || n == 65512 || n == 65520)
	}
	for _, n := range []int{65528, 65536, 65536 + 8, 131064, 131072, 999992, 1000000, 1000008, 2000000} {
		a := own(7, make([]byte, n)...)
		if Right(a) || Size(a) != 0 {
			t.Errorf("Right of %d bytes", n)
		}
		if b, e := Encode(a); e != api.ErrArg || len(b) != 0 {
			t.Errorf("Encode of %d bytes: %d, %d", n, len(b), e)
		}
	}
	if Size(own(7, make([]byte, 65520)...)) != 65528 {
		t.Errorf("Size of the longest: %d", Size(own(7, make([]byte, 65520)...)))
	}
}

// AC2: each length of each type, with as many bytes, with more, and with one too few.
func TestDecodeLengths(t *testing.T) {
	zeros, ones := make([]byte, 70000), slices.Repeat([]byte{255}, 70000)
	for _, kind := range append(types(), 1, 28) {
		for n := range 65536 {
			if n > 300 && n < 65500 && n%1000 > 16 {
				continue
			}
			head := []byte{byte(kind >> 8), byte(kind), byte(n >> 8), byte(n)}
			for _, behind := range [][]byte{zeros, ones, body(full(26)), zeros[:4], ones[:12], zeros[:max(n-5, 0)], zeros[:max(n-4, 0)], zeros[:max(n-3, 0)]} {
				b := slices.Concat(head, behind)
				want, size, wantE := decoded(b)
				if a, m, e := Decode(b); e != wantE || m != size || !equal(a, want) {
					t.Fatalf("Decode of the type %d, the length %d, %d bytes: %d, %d; not %d, %d", kind, n, len(b), m, e, size, wantE)
				}
			}
		}
	}
}

// AC2: each error alone, and of several the one that is named first.
func TestDecodeErrors(t *testing.T) {
	for _, x := range []struct {
		b    []byte
		want api.Errno
	}{
		// Too few bytes for a head, ahead of what else may be wrong.
		{nil, api.ActLen}, {[]byte{}, api.ActLen}, {[]byte{0}, api.ActLen}, {[]byte{0, 0, 0}, api.ActLen}, {[]byte{0, 1, 0}, api.ActLen}, {[]byte{9, 9}, api.ActLen},
		// A length below 8, no multiple of 8, or of more bytes than there are: ahead of the type.
		{[]byte{0, 11, 0, 0, 0, 0, 0, 0}, api.ActLen}, {[]byte{0, 11, 0, 4, 0, 0, 0, 0}, api.ActLen}, {[]byte{0, 11, 0, 7, 0, 0, 0, 0}, api.ActLen}, {[]byte{0, 11, 0, 9, 0, 0, 0, 0, 0}, api.ActLen}, {[]byte{0, 11, 0, 12, 0, 0, 0, 0, 0, 0, 0, 0}, api.ActLen},
		{[]byte{0, 11, 0, 8, 0, 0, 0}, api.ActLen}, {[]byte{0, 11, 0, 8}, api.ActLen}, {[]byte{0, 1, 0, 4, 0, 0, 0, 0}, api.ActLen}, {[]byte{0, 1, 0, 8, 0, 0, 0}, api.ActLen}, {[]byte{0, 1, 0, 10, 0, 0, 0, 0, 0, 0}, api.ActLen}, {[]byte{255, 254, 255, 255}, api.ActLen},
		{[]byte{255, 255, 0, 4, 0, 0, 0, 0}, api.ActLen}, {[]byte{255, 255, 0, 12, 0, 0, 0, 0, 0, 0, 0, 0}, api.ActLen}, {[]byte{0, 25, 0, 12, 128, 0, 14, 1, 7, 0, 0, 0}, api.ActLen}, {[]byte{0, 25, 0, 16, 128, 0, 6, 6, 1, 2, 3, 4, 5, 6, 0}, api.ActLen},
		// No type, whatever is behind it.
		{framed(1, 0), api.ActType}, {framed(10, 1), api.ActType}, {framed(13, 255, 255, 255, 255, 255), api.ActType}, {framed(14, 0), api.ActType}, {framed(28, 0), api.ActType}, {framed(65534, 0), api.ActType}, {framed(256, 0), api.ActType}, {framed(11*256, 0), api.ActType},
		// A length that is not that of the type, ahead of what is wrong behind it.
		{framed(0, 0, 0, 0, 0), api.ActLen}, {framed(0, 0, 0, 0, 3), api.ActLen}, {framed(0, slices.Repeat([]byte{1}, 20)...), api.ActLen}, {framed(11, make([]byte, 12)...), api.ActLen}, {framed(11, slices.Repeat([]byte{1}, 12)...), api.ActLen},
		{framed(17, slices.Repeat([]byte{1}, 12)...), api.ActLen}, {framed(22, slices.Repeat([]byte{255}, 12)...), api.ActLen}, {framed(21, make([]byte, 20)...), api.ActLen}, {framed(23, 1, 0, 0, 0, 0, 0, 0), api.ActLen},
		// A byte that must be 0, ahead of what is asked.
		{framed(0, 0, 0, 0, 3, 255, 255, 1), api.ActArg}, {framed(0, 0, 0, 0, 3, 255, 255, 0, 0, 0, 0, 0, 1), api.ActArg}, {framed(0, 0, 0, 0, 0, 0, 0, 0, 0, 0, 0, 0, 1), api.ActArg}, {framed(0, 0, 0, 0, 0, 0, 0, 128), api.ActArg},
		{framed(11, 1), api.ActArg}, {framed(12, 0, 0, 0, 1), api.ActArg}, {framed(16, 0, 1), api.ActArg}, {framed(18, 0, 0, 128), api.ActArg}, {framed(24, 255), api.ActArg}, {framed(27, 0, 0, 0, 1), api.ActArg},
		{framed(15, 64, 1), api.ActArg}, {framed(15, 64, 0, 0, 1), api.ActArg}, {framed(23, 64, 0, 1), api.ActArg}, {framed(17, 129, 0, 0, 1), api.ActArg}, {framed(19, 136, 71, 1), api.ActArg}, {framed(26, 136, 231, 0, 1), api.ActArg}, {framed(20, 8, 0, 1), api.ActArg},
		// What is asked.
		{framed(0, 0, 0, 0, 0, 0, 0, 0, 0, 0, 0, 0, 0), api.ActPort}, {framed(0, 0, 0, 0, 0, 255, 255, 0, 0, 0, 0, 0, 0), api.ActPort}, {framed(22, 255, 255, 255, 1), api.ActGroup}, {framed(22, 255, 255, 255, 255), api.ActGroup},
		{framed(17, 0), api.ActArg}, {framed(17, 136, 71), api.ActArg}, {framed(17, 128, 0), api.ActArg}, {framed(19, 0), api.ActArg}, {framed(19, 129, 0), api.ActArg}, {framed(19, 136, 73), api.ActArg}, {framed(26, 0), api.ActArg}, {framed(26, 136, 230), api.ActArg},
		// Of a SetField, layer 8's errors.
		{framed(25, 128, 0, 6, 6), api.SetLen}, {framed(25, 128, 0, 6, 5, 1, 2, 3, 4, 5, 0), api.SetLen}, {framed(25, 128, 0, 6, 7, 1, 2, 3, 4, 5, 6, 7), api.SetLen}, {framed(25, 128, 0, 76, 8), api.SetLen}, {framed(25, 255, 255, 0, 3, 0, 0, 0, 0), api.SetLen},
		{framed(25, 0), api.SetType}, {framed(25, 0, 0, 6, 6, 1, 2, 3, 4, 5, 6), api.SetType}, {framed(25, 128, 1, 6, 6, 1, 2, 3, 4, 5, 6), api.SetType}, {framed(25, 128, 0, 80, 6, 1, 2, 3, 4, 5, 6), api.SetType}, {framed(25, 128, 0, 255, 9), api.SetType},
		{framed(25, 128, 0, 14, 1, 8), api.SetArg}, {framed(25, 128, 0, 12, 2, 32, 0), api.SetArg}, {framed(25, 128, 0, 11, 4, 8, 0, 8, 0), api.SetArg}, {framed(25, 128, 0, 13, 4, 0, 0, 0, 0), api.SetArg}, {framed(25, 128, 0, 13, 4, 31, 255, 31, 255), api.SetArg}, {framed(25, 128, 0, 13, 4, 0, 1, 16, 0), api.SetArg},
		// Of a field that may not be set, or of the class Extra, ahead of a mask, and of a length that may not be.
		{framed(25, 128, 0, 0, 4, 0, 0, 0, 7), api.SetType}, {framed(25, 128, 0, 2, 4, 0, 0, 0, 7), api.SetType}, {framed(25, 128, 0, 4, 8, 1, 2, 3, 4, 5, 6, 7, 8), api.SetType}, {framed(25, 128, 0, 78, 2, 0, 1), api.SetType},
		{framed(25, 128, 0, 5, 16, 0, 0, 0, 0, 0, 0, 0, 1, 0, 0, 0, 0, 0, 0, 0, 3), api.SetType}, {framed(25, 128, 0, 79, 4, 0, 1, 0, 1), api.SetType}, {framed(25, 128, 0, 0, 4, 0, 0, 0, 7, 1, 1, 1, 1, 1, 1, 1, 1), api.SetType}, {framed(25, 128, 0, 78, 2, 0, 1, 1), api.SetType},
		{framed(25, 255, 255, 6, 10, 0, 0, 0, 0, 1, 2, 3, 4, 5, 6), api.SetType}, {framed(25, 255, 255, 7, 6, 0, 0, 0, 0, 1, 3), api.SetType}, {framed(25, 255, 255, 6, 4, 0, 0, 0, 0), api.SetType}, {framed(25, 255, 255, 6, 4, 0, 0, 0, 0, 1), api.SetType},
		// But behind layer 8's.
		{framed(25, 128, 0, 0, 3, 0, 0, 0), api.SetLen}, {framed(25, 128, 0, 1, 8, 0, 0, 0, 0, 255, 255, 255, 255), api.SetArg}, {framed(25, 128, 0, 5, 16), api.SetLen}, {framed(25, 128, 0, 78, 2, 255, 255), api.SetArg}, {framed(25, 255, 255, 7, 6, 0, 0, 0, 0, 1, 0), api.SetArg}, {framed(25, 255, 255, 7, 6, 0, 0, 0, 0, 3, 1), api.SetArg},
		// A mask, ahead of the length.
		{framed(25, 128, 0, 13, 4, 16, 0, 16, 0), api.SetArg}, {framed(25, 128, 0, 13, 4, 16, 0, 16, 0, 0, 0, 0, 0, 0, 0, 0, 0, 0), api.SetArg}, {framed(25, 128, 0, 7, 12, 0, 0, 0, 0, 0, 1, 0, 0, 0, 0, 0, 1), api.SetArg},
		// A length with 8 bytes too many, ahead of one that is not 0.
		{framed(25, 128, 0, 6, 6, 1, 2, 3, 4, 5, 6, 0, 0, 0), api.SetLen}, {framed(25, 128, 0, 6, 6, 1, 2, 3, 4, 5, 6, 1, 1, 1, 1), api.SetLen}, {framed(25, 128, 0, 76, 8, 1, 2, 3, 4, 5, 6, 7, 8, 0), api.SetLen}, {framed(25, 128, 0, 76, 8, 1, 2, 3, 4, 5, 6, 7, 8, 255), api.SetLen},
		{framed(25, append(body(full(3)), make([]byte, 65500)...)...), api.SetLen},
		// A byte behind the value that is not 0.
		{framed(25, 128, 0, 14, 1, 7, 1), api.SetArg}, {framed(25, 128, 0, 14, 1, 7, 0, 0, 0, 0, 0, 0, 1), api.SetArg}, {framed(25, 128, 0, 6, 6, 1, 2, 3, 4, 5, 6, 255), api.SetArg},
	} {
		notGot(t, x.b, x.want)
		if _, _, e := decoded(x.b); e != x.want {
			t.Errorf("decoded of %v: %d, not %d", x.b, e, x.want)
		}
		// What is behind the length is of no matter; but where there are too few bytes, it is.
		if n := int(told(append(slices.Clone(x.b), 0, 0, 0, 0)[2:4])); len(x.b) >= max(n, 4) {
			notGot(t, append(slices.Clone(x.b), 1, 2, 3, 4, 5, 6, 7, 8), x.want)
		}
	}
}

// AC2: a value may not go on behind the action's length, even where there are bytes.
func TestBehindTheLength(t *testing.T) {
	notGot(t, []byte{0, 25, 0, 8, 128, 0, 6, 6, 1, 2, 3, 4, 5, 6, 0, 0}, api.SetLen)
	notGot(t, []byte{0, 25, 0, 16, 128, 0, 52, 16, 1, 2, 3, 4, 5, 6, 7, 8, 9, 10, 11, 12, 13, 14, 15, 16}, api.SetLen)
	got(t, []byte{255, 255, 0, 8, 1, 2, 3, 4, 5, 6, 7, 8}, own(0x01020304))
	got(t, append(plain(own(1, 1, 2, 3, 4, 5, 6, 7, 8)), 9, 9, 9, 9, 9, 9, 9, 9), own(1, 1, 2, 3, 4, 5, 6, 7, 8))
}

// samples are actions of each type that may be.
func samples() []api.Act {
	return []api.Act{act(Output, 1, 0), act(Output, math.MaxUint32, math.MaxUint16), act(CopyOut, 0, 0), act(CopyIn, 0, 0), act(SetMplsTtl, 9, 0), act(DecMplsTtl, 0, 0), act(PushVlan, 33024, 0), act(PushVlan, 34984, 0), act(PopVlan, 0, 0),
		act(PushMpls, 34887, 0), act(PushMpls, 34888, 0), act(PopMpls, 2048, 0), act(SetQueue, 7, 0), act(Group, 4294967040, 0), act(Group, 0, 0), act(SetTtl, 1, 0), act(DecTtl, 0, 0), act(PushPbb, 35047, 0), act(PopPbb, 0, 0),
		set(basic(3, 1, 2, 3, 4, 5, 6)), set(basic(5, 8, 0)), set(basic(7, 5)), set(basic(37, 1, 2, 3)), set(basic(34, 0, 1, 2, 3)), set(basic(38, 1, 2, 3, 4, 5, 6, 7, 8)), set(full(27)),
		own(0), own(math.MaxUint32, 1, 2, 3, 4, 5, 6, 7, 8), own(1, make([]byte, 40)...)}
}

// AC2, AC4: each change of one byte of an action's bytes, and each cut, is what the chapter's clauses tell.
func TestDecodeChanged(t *testing.T) {
	for _, a := range samples() {
		b := plain(a)
		for i := range b {
			notGot(t, b[:i], api.ActLen)
			for x := range 256 {
				changed := slices.Clone(b)
				changed[i] = byte(x)
				held(t, changed)
				held(t, append(changed, slices.Repeat([]byte{byte(x)}, 300)...))
			}
		}
		// Each two bytes about the head and the value's head.
		for i := range min(len(b), 8) {
			for j := range i {
				for _, x := range []byte{0, 1, 4, 6, 8, 16, 17, 24, 25, 26, 128, 255} {
					for _, y := range []byte{0, 1, 7, 8, 11, 16, 22, 24, 25, 129, 136, 255} {
						changed := append(slices.Clone(b), make([]byte, 40)...)
						changed[j], changed[i] = x, y
						held(t, changed)
					}
				}
			}
		}
	}
}

// AC4: what was encoded is decoded, one action behind the other.
func TestOneByOne(t *testing.T) {
	var all []byte
	for _, a := range samples() {
		b, e := Encode(a)
		if e != api.OK {
			t.Fatalf("Encode of %v: %d", a, e)
		}
		all = append(all, b...)
	}
	for _, want := range samples() {
		a, n, e := Decode(all)
		if e != api.OK || n != Size(want) || !equal(a, want) {
			t.Fatalf("Decode: %v, %d, %d; not %v", a, n, e, want)
		}
		all = all[n:]
	}
	if len(all) != 0 {
		t.Errorf("%d bytes are left", len(all))
	}
}

// others are actions of which each differs from the first one in one thing.
func others() []api.Act {
	one := api.Act{Type: 25, A: 3, B: 4, Set: masked(extra(5, 7, 1, 2), 3, 4), Data: []byte{5, 6}}
	l := []api.Act{one}
	for _, change := range []func(a *api.Act){
		func(a *api.Act) { a.Type = 24 },
		func(a *api.Act) { a.Type += 1 << 32 },
		func(a *api.Act) { a.Type = -25 },
		func(a *api.Act) { a.A++ },
		func(a *api.Act) { a.A += 1 << 32 },
		func(a *api.Act) { a.B++ },
		func(a *api.Act) { a.B += 1 << 63 },
		func(a *api.Act) { a.A, a.B = a.B, a.A },
		func(a *api.Act) { a.Set.Class = api.Basic },
		func(a *api.Act) { a.Set.Field++ },
		func(a *api.Act) { a.Set.Has = false },
		func(a *api.Act) { a.Set.Exp++ },
		func(a *api.Act) { a.Set.Value = []byte{1} },
		func(a *api.Act) { a.Set.Value = []byte{1, 3} },
		func(a *api.Act) { a.Set.Value = []byte{1, 2, 0} },
		func(a *api.Act) { a.Set.Mask = nil },
		func(a *api.Act) { a.Set.Mask = []byte{4, 4} },
		func(a *api.Act) { a.Set = api.Oxm{} },
		func(a *api.Act) { a.Data = nil },
		func(a *api.Act) { a.Data = []byte{5} },
		func(a *api.Act) { a.Data = []byte{5, 6, 0} },
		func(a *api.Act) { a.Data = []byte{4, 6} },
		func(a *api.Act) { a.Data = []byte{5, 7} },
		func(a *api.Act) { *a = api.Act{} },
	} {
		x := clone(one)
		change(&x)
		l = append(l, x)
	}
	return l
}

// AC3: two are the same just if all fields are, whether they may be or not.
func TestSame(t *testing.T) {
	for _, l := range [][]api.Act{others(), samples()} {
		for i, a := range l {
			for j, b := range l {
				if Same(a, b) != (i == j) || Same(clone(a), b) != (i == j) {
					t.Errorf("Same of %v, %v: %v", a, b, Same(a, b))
				}
			}
		}
	}
	// Nothing may be nil or empty, and what lies behind is of no matter.
	empty := api.Act{Set: api.Oxm{Value: []byte{}, Mask: []byte{}}, Data: []byte{}}
	if !Same(api.Act{}, empty) || !Same(empty, api.Act{}) {
		t.Error("nil and empty are not the same")
	}
	if !Same(own(7, []byte{1, 2, 3}[:2]...), own(7, []byte{1, 2, 4}[:2]...)) {
		t.Error("what lies behind is looked at")
	}
}

// AC3: a copy is the same, whether it may be or not, in memory of its own.
func TestCopy(t *testing.T) {
	for _, a := range slices.Concat(others(), samples(), []api.Act{{}, {Type: math.MinInt, A: math.MaxUint64, B: math.MaxUint64, Data: make([]byte, 70000)}, {Data: []byte{}, Set: api.Oxm{Value: []byte{}, Mask: []byte{}}}}) {
		was := clone(a)
		c := Copy(a)
		if !equal(c, was) || !equal(a, was) {
			t.Errorf("Copy of %v: %v", was, c)
		}
		spoil(c)
		if !equal(a, was) {
			t.Errorf("who changed a copy of %v changed it to %v", was, a)
		}
		c = Copy(a)
		spoil(a)
		if !equal(c, was) {
			t.Errorf("who changed %v changed its copy to %v", was, c)
		}
	}
}

// apart asks that no two lists of an answer share memory: who changes one changes no other.
func apart(t *testing.T, a api.Act) {
	t.Helper()
	want := clone(a)
	for i, b := range lists(a) {
		flip(b[:cap(b)])
		for j, x := range lists(a) {
			if i != j && !slices.Equal(x, lists(want)[j]) {
				t.Errorf("who changed the list %d changed the list %d: %v", i, j, a)
			}
		}
		flip(b[:cap(b)])
	}
}

// AC1, AC2, AC3: what is answered is new memory, and no two lists of it share any.
func TestNewMemory(t *testing.T) {
	for _, want := range samples() {
		b := append(plain(want), 7, 7, 7, 7)
		first, _, _ := Decode(b)
		second, _, _ := Decode(b)
		clear(b)
		for _, a := range []api.Act{first, second, Copy(first)} {
			if !equal(a, want) {
				t.Errorf("who changed the bytes changed %v to %v", want, a)
			}
			apart(t, a)
		}
		x, _ := Encode(second)
		y, _ := Encode(second)
		spoil(first)
		flip(x[:cap(x)])
		if !equal(second, want) || !slices.Equal(y, plain(want)) {
			t.Errorf("who changed one answer changed another to %v, %v", second, y)
		}
		spoil(second)
		if !slices.Equal(y, plain(want)) {
			t.Errorf("who changed what is encoded changed its bytes to %v", y)
		}
	}
	shared := []byte{8, 0, 9, 9}
	a := api.Act{Set: api.Oxm{Value: shared[:2], Mask: shared[:3]}, Data: shared[1:3]}
	apart(t, Copy(a))
	if !slices.Equal(shared, []byte{8, 0, 9, 9}) {
		t.Errorf("Copy changed what is handed in to %v", shared)
	}
}

// AC1, AC2, AC3: what lies behind a list's length is neither read nor written.
func TestBehindInMemory(t *testing.T) {
	data := []byte{1, 2, 3, 4, 5, 6, 7, 8, 77, 77, 77, 77, 77, 77, 77, 77}
	right(t, own(7, data[:8]...))
	right(t, own(7, data[:0]...))
	right(t, set(basic(3, data[:6]...)))
	wrongOne(t, own(7, data[:7]...))
	wrongOne(t, set(basic(3, data[:5]...)))
	x := act(Output, 1, 0)
	x.Data, x.Set.Value, x.Set.Mask = data[:0], data[:0], data[:0]
	right(t, x)
	_ = append(Copy(own(7, data[:8]...)).Data, 9)
	b := append(plain(act(Output, 1, 0)), 77, 77)
	for n := range 16 {
		notGot(t, b[:n], api.ActLen)
	}
	got(t, b[:16], act(Output, 1, 0))
	if !bytes.HasSuffix(data, []byte{77, 77, 77, 77, 77, 77, 77, 77}) || !bytes.HasSuffix(b, []byte{77, 77}) {
		t.Errorf("%v, %v", data, b)
	}
}

// made is an action that may be, or is near to one, of numbers that say which.
func made(next func() int) api.Act {
	numbers := []uint64{0, 1, 3, 255, 256, 33024, 34887, 34888, 34984, 35047, 65535, 65536, 0xffffff00, 0xffffff01, 0xffffffff, 1 << 32}
	a := act(types()[next()%len(types())], 0, 0)
	number := func() uint64 { return numbers[next()%len(numbers)] }
	switch a.Type {
	case 0:
		a.A, a.B = number(), number()
	case 25:
		a.Set = full(next() % 44)
		flipped := next() % (len(a.Set.Value) + 1)
		for i := range a.Set.Value[:flipped] {
			a.Set.Value[i] = 0
		}
	case 65535:
		a.A, a.Data = number(), bytes.Repeat([]byte{byte(next())}, 8*(next()%9))
	case 15, 17, 19, 20, 21, 22, 23, 26:
		a.A = number()
	}
	switch next() % 40 {
	case 0:
		a.A = number()
	case 1:
		a.B = number()
	case 2:
		a.Data = append(a.Data, byte(next()))
	case 3:
		a.Set = full(next() % 44)
	case 4:
		a.Type = next() * 7
	case 5:
		a.Set = masked(a.Set, bytes.Repeat([]byte{byte(next())}, len(a.Set.Value))...)
	case 6:
		a.Set = extra(a.Set.Field, number(), a.Set.Value...)
	case 7:
		a.Set.Value = append(a.Set.Value, byte(next()))
	case 8:
		a.Set.Exp = number()
	}
	return a
}

// AC1, AC2, AC3, AC4: actions by the thousand are what the chapter's words tell; enough of them may be.
func TestManyActions(t *testing.T) {
	r := rand.New(rand.NewSource(12))
	fine := 0
	for range 60000 {
		a := made(func() int { return r.Intn(256) })
		asked(t, a, mayBe(a))
		if mayBe(a) {
			fine++
			b := plain(a)
			b[r.Intn(len(b))] ^= 1 << r.Intn(8)
			held(t, b)
			held(t, slices.Concat(b, b, b))
		}
	}
	if fine < 20000 {
		t.Errorf("%d actions alone may be", fine)
	}
}

// AC2, AC4: whatever the bytes, they are what the chapter's clauses tell, and again those bytes.
func FuzzDecode(f *testing.F) {
	for _, a := range samples() {
		f.Add(plain(a))
	}
	f.Add([]byte{})
	f.Add(append([]byte{128, 0}, body(full(3))...))
	f.Fuzz(func(t *testing.T, b []byte) {
		held(t, b)
		// Most bytes are no head: the same of what is behind one.
		if len(b) > 0 && len(b) < 2000 {
			held(t, framed(types()[int(b[0])%len(types())], b[1:]...))
			held(t, framed(SetField, append([]byte{128, 0}, b...)...))
		}
	})
}

// AC1, AC3, AC4: whatever an action has, it is what the chapter's words tell.
func FuzzActions(f *testing.F) {
	f.Add([]byte{})
	for i := range 17 {
		f.Add([]byte{byte(i), 3, 4, 5, 6, 7, 8})
	}
	f.Fuzz(func(t *testing.T, b []byte) {
		i := 0
		a := made(func() int {
			if i == len(b) {
				return 99
			}
			i++
			return int(b[i-1])
		})
		asked(t, a, mayBe(a))
	})
}
