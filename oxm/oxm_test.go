package oxm

import (
	"bytes"
	"math"
	"math/big"
	"slices"
	"testing"

	"gunwale/api"
	"gunwale/field"
)

// far are numbers that are neither a class nor a field, beside them and at the edges of what an int holds and of what fewer bits hold; some, cut off, would be one.
var far = []int{math.MinInt, math.MinInt + 5, math.MinInt + api.Basic, math.MinInt32, -1<<32 + api.Basic, -1<<32 + 5, -65536, -65531, -api.Basic, -256, -251, -128, -123, -40, -5, -1,
	128, 133, 255, 256, 261, api.Basic - 1, api.Basic + 1, 65534, 65536, 65541, 65536 + api.Basic, 1<<17 - 1, math.MaxInt32, math.MaxUint32, 1 << 32, 1<<32 + 5, 1<<32 + api.Basic, 1<<32 + api.Extra, math.MaxInt - 1, math.MaxInt}

// basic is a value without a mask.
func basic(n int, value ...byte) api.Oxm {
	return api.Oxm{Class: api.Basic, Field: n, Value: value}
}

// masked is the same with a mask.
func masked(o api.Oxm, mask ...byte) api.Oxm {
	o.Has, o.Mask = true, mask
	return o
}

// extra is a value of the class Extra without a mask.
func extra(n int, exp uint64, value ...byte) api.Oxm {
	return api.Oxm{Class: api.Extra, Field: n, Exp: exp, Value: value}
}

// full is so many bytes with the lowest so many bits 1.
func full(size, width int) []byte {
	n := new(big.Int).Lsh(big.NewInt(1), uint(width))
	return n.Sub(n, big.NewInt(1)).FillBytes(make([]byte, size))
}

// bit is so many bytes with one bit 1, the lowest one being 0.
func bit(size, n int) []byte {
	return new(big.Int).Lsh(big.NewInt(1), uint(n)).FillBytes(make([]byte, size))
}

// mask tells the error of a mask of so many bits and of the value under it, as the chapter words it, told with numbers.
func maskError(value, mask []byte, width int) api.Errno {
	v, m := new(big.Int).SetBytes(value), new(big.Int).SetBytes(mask)
	if m.Sign() == 0 || m.Cmp(new(big.Int).SetBytes(full(width/8+1, width))) == 0 {
		return api.MatchMask
	}
	if new(big.Int).AndNot(v, m).Sign() != 0 {
		return api.MatchWild
	}
	return api.OK
}

// mayBe is Right, told as the chapter words it.
func mayBe(o api.Oxm) bool {
	if !o.Has && len(o.Mask) != 0 {
		return false
	}
	if o.Class == api.Extra {
		return o.Field >= 0 && o.Field <= 127 && o.Exp < 1<<32 && len(o.Value) <= 100 &&
			(!o.Has || len(o.Mask) == len(o.Value) && maskError(o.Value, o.Mask, 8*len(o.Mask)) == api.OK)
	}
	f, ok := field.Of(o.Field)
	return o.Class == api.Basic && ok && o.Exp == 0 && field.Fits(o.Field, o.Value) &&
		(!o.Has || f.Masked && field.Fits(o.Field, o.Mask) && maskError(o.Value, o.Mask, f.Bits) == api.OK)
}

// plain is the bytes of a value that may be, told as plainly as can be.
func plain(o api.Oxm) []byte {
	behind := slices.Concat(o.Value, o.Mask)
	if o.Class == api.Extra {
		behind = slices.Concat([]byte{byte(o.Exp >> 24), byte(o.Exp >> 16), byte(o.Exp >> 8), byte(o.Exp)}, behind)
	}
	second := byte(2 * o.Field)
	if o.Has {
		second++
	}
	return append([]byte{byte(o.Class >> 8), byte(o.Class), second, byte(len(behind))}, behind...)
}

// headError is the first error that Decode tells of the first four bytes.
func headError(class, n, length int, has bool) api.Errno {
	f, ok := field.Of(n)
	times := 1
	if has {
		times = 2
	}
	switch {
	case class != api.Basic && class != api.Extra || class == api.Basic && !ok:
		return api.MatchField
	case class == api.Basic && has && !f.Masked:
		return api.MatchMask
	case class == api.Basic && length != times*f.Size:
		return api.MatchLen
	case class == api.Extra && (length < 4 || has && length%2 != 0 || !has && length > 104 || length > 204):
		return api.MatchLen
	}
	return api.OK
}

// decoded is Decode, told clause by clause as the chapter lists them.
func decoded(b []byte) (api.Oxm, int, api.Errno) {
	if len(b) < 4 {
		return api.Oxm{}, 0, api.MatchLen
	}
	o := api.Oxm{Class: 256*int(b[0]) + int(b[1]), Field: int(b[2]) / 2, Has: b[2]%2 == 1}
	size := 4 + int(b[3])
	if e := headError(o.Class, o.Field, size-4, o.Has); e != api.OK {
		return api.Oxm{}, 0, e
	}
	if len(b) < size {
		return api.Oxm{}, 0, api.MatchLen
	}
	rest := b[4:size]
	if o.Class == api.Extra {
		o.Exp = new(big.Int).SetBytes(rest[:4]).Uint64()
		rest = rest[4:]
	}
	o.Value = rest
	if o.Has {
		o.Value, o.Mask = rest[:len(rest)/2], rest[len(rest)/2:]
	}
	if e := bodyError(o); e != api.OK {
		return api.Oxm{}, 0, e
	}
	return o, size, api.OK
}

// bodyError is the first error that Decode tells of the Value and the Mask.
func bodyError(o api.Oxm) api.Errno {
	width := 8 * len(o.Mask)
	if o.Class == api.Basic {
		f, _ := field.Of(o.Field)
		width = f.Bits
		if !field.Fits(o.Field, o.Value) {
			return api.MatchValue
		}
		if o.Has && !field.Fits(o.Field, o.Mask) {
			return api.MatchMask
		}
	}
	if o.Has {
		return maskError(o.Value, o.Mask, width)
	}
	return api.OK
}

// equal holds two values against one another without Same.
func equal(a, b api.Oxm) bool {
	return a.Class == b.Class && a.Field == b.Field && a.Has == b.Has && a.Exp == b.Exp && slices.Equal(a.Value, b.Value) && slices.Equal(a.Mask, b.Mask)
}

// clone is a copy without Copy.
func clone(o api.Oxm) api.Oxm {
	o.Value, o.Mask = slices.Clone(o.Value), slices.Clone(o.Mask)
	return o
}

// right asks for a value that may be: its size, its bytes, and, of these, for itself, whatever is behind; and that none of this changes what is handed in.
func right(t *testing.T, o api.Oxm) {
	t.Helper()
	was, want := clone(o), plain(o)
	if !Right(o) || Size(o) != len(want) {
		t.Errorf("%v: Right %v, Size %d, not %d", o, Right(o), Size(o), len(want))
	}
	b, e := Encode(o)
	if e != api.OK || !slices.Equal(b, want) {
		t.Errorf("Encode of %v: %v, %d; not %v", o, b, e, want)
	}
	for _, behind := range [][]byte{nil, {0}, {255}, {0x80, 0, 10, 2, 8, 0}, make([]byte, 300)} {
		got(t, slices.Concat(want, behind), o)
	}
	if !equal(o, was) {
		t.Errorf("%v was changed to %v", was, o)
	}
}

// wrong asks for a value that may not be.
func wrong(t *testing.T, o api.Oxm) {
	t.Helper()
	was := clone(o)
	if Right(o) || Size(o) != 0 {
		t.Errorf("%v: Right %v, Size %d", o, Right(o), Size(o))
	}
	if b, e := Encode(o); e != api.ErrArg || len(b) != 0 {
		t.Errorf("Encode of %v: %v, %d", o, b, e)
	}
	if !equal(o, was) {
		t.Errorf("%v was changed to %v", was, o)
	}
}

// asked asks for a value, which may be or not.
func asked(t *testing.T, o api.Oxm, may bool) {
	t.Helper()
	if may {
		right(t, o)
	} else {
		wrong(t, o)
	}
}

// got asks Decode for a value.
func got(t *testing.T, b []byte, want api.Oxm) {
	t.Helper()
	was := slices.Clone(b)
	o, n, e := Decode(b)
	if e != api.OK || n != len(plain(want)) || !equal(o, want) {
		t.Errorf("Decode of %v: %v, %d, %d; not %v", b, o, n, e, want)
	}
	if !slices.Equal(b, was) {
		t.Errorf("Decode changed %v to %v", was, b)
	}
}

// notGot asks Decode for an error, and nothing beside it.
func notGot(t *testing.T, b []byte, want api.Errno) {
	t.Helper()
	was := slices.Clone(b)
	if o, n, e := Decode(b); e != want || n != 0 || !equal(o, api.Oxm{}) {
		t.Errorf("Decode of %v: %v, %d, %d; not %d", b, o, n, e, want)
	}
	if !slices.Equal(b, was) {
		t.Errorf("Decode changed %v to %v", was, b)
	}
}

// held asks Decode for what the chapter's clauses tell of bytes.
func held(t *testing.T, b []byte) {
	t.Helper()
	o, _, e := decoded(b)
	if e != api.OK {
		notGot(t, b, e)
		return
	}
	got(t, b, o)
	if again, e := Encode(o); e != api.OK || !bytes.HasPrefix(b, again) || len(again) != Size(o) {
		t.Errorf("Encode of what %v is: %v, %d", b, again, e)
	}
}

// The chapter's example.
func TestExample(t *testing.T) {
	b, o := []byte{128, 0, 10, 2, 8, 0}, basic(5, 8, 0)
	if x, e := Encode(o); e != api.OK || !slices.Equal(x, b) {
		t.Errorf("Encode: %v, %d", x, e)
	}
	if x, n, e := Decode(b); e != api.OK || n != 6 || !equal(x, o) {
		t.Errorf("Decode: %v, %d, %d", x, n, e)
	}
}

// OX1, OX2: bytes spelt out, both ways.
func TestBytes(t *testing.T) {
	for _, x := range []struct {
		o api.Oxm
		b []byte
	}{
		{basic(0, 0, 0, 0, 7), []byte{128, 0, 0, 4, 0, 0, 0, 7}},
		{basic(14, 0, 80), []byte{128, 0, 28, 2, 0, 80}},
		{basic(36, 1), []byte{128, 0, 72, 1, 1}},
		{masked(basic(12, 10, 0, 0, 0), 255, 0, 0, 0), []byte{128, 0, 25, 8, 10, 0, 0, 0, 255, 0, 0, 0}},
		{masked(basic(6, 16, 0), 16, 0), []byte{128, 0, 13, 4, 16, 0, 16, 0}},
		{masked(basic(39, 0, 1), 1, 1), []byte{128, 0, 79, 4, 0, 1, 1, 1}},
		{extra(0, 0), []byte{255, 255, 0, 4, 0, 0, 0, 0}},
		{extra(127, 0x01020304, 9, 8), []byte{255, 255, 254, 6, 1, 2, 3, 4, 9, 8}},
		{masked(extra(127, math.MaxUint32, 1), 3), []byte{255, 255, 255, 6, 255, 255, 255, 255, 1, 3}},
		{masked(extra(40, 7, 0, 128), 0, 129), []byte{255, 255, 81, 8, 0, 0, 0, 7, 0, 128, 0, 129}},
	} {
		if b, e := Encode(x.o); e != api.OK || !slices.Equal(b, x.b) || Size(x.o) != len(x.b) {
			t.Errorf("Encode of %v: %v, %d, Size %d; not %v", x.o, b, e, Size(x.o), x.b)
		}
		if o, n, e := Decode(x.b); e != api.OK || n != len(x.b) || !equal(o, x.o) {
			t.Errorf("Decode of %v: %v, %d, %d; not %v", x.b, o, n, e, x.o)
		}
	}
}

// OX1: values of each field without a mask: each bit alone may be just if it is one of the field's, and as many bytes as it has.
func TestRightOfEachField(t *testing.T) {
	for n := range api.Fields {
		f, _ := field.Of(n)
		right(t, basic(n, make([]byte, f.Size)...))
		right(t, basic(n, full(f.Size, f.Bits)...))
		for i := range 8 * f.Size {
			asked(t, basic(n, bit(f.Size, i)...), i < f.Bits)
		}
		for size := range 40 {
			asked(t, basic(n, make([]byte, size)...), size == f.Size)
		}
		wrong(t, basic(n))
		wrong(t, basic(n, make([]byte, 256+f.Size)...))
		wrong(t, basic(n, make([]byte, 65536+f.Size)...))
	}
}

// OX1: masks of each field, where it may have one: not all zeros, not all ones, no bit but the field's.
func TestMaskOfEachField(t *testing.T) {
	for n := range api.Fields {
		f, _ := field.Of(n)
		zero, ones := make([]byte, f.Size), full(f.Size, f.Bits)
		wrong(t, masked(basic(n, zero...), zero...))
		wrong(t, masked(basic(n, zero...), ones...))
		wrong(t, masked(basic(n, ones...), ones...))
		wrong(t, masked(basic(n, zero...), slices.Repeat([]byte{255}, f.Size)...))
		for i := range 8 * f.Size {
			may, one := f.Masked && i < f.Bits, bit(f.Size, i)
			but := new(big.Int).Xor(new(big.Int).SetBytes(ones), new(big.Int).SetBytes(one)).FillBytes(make([]byte, f.Size))
			asked(t, masked(basic(n, zero...), one...), may)
			asked(t, masked(basic(n, one...), one...), may)
			asked(t, masked(basic(n, zero...), but...), may)
			asked(t, masked(basic(n, but...), but...), may)
			// The one bit of the Value that the Mask has not.
			wrong(t, masked(basic(n, one...), but...))
			wrong(t, masked(basic(n, but...), one...))
			wrong(t, masked(basic(n, ones...), but...))
		}
	}
}

// OX1: a mask has as many bytes as the field; without Has it has none.
func TestMaskSize(t *testing.T) {
	for n := range api.Fields {
		f, _ := field.Of(n)
		zero := make([]byte, f.Size)
		for size := 1; size < 40; size++ {
			mask := make([]byte, size)
			mask[size-1] = 1
			asked(t, masked(basic(n, zero...), mask...), f.Masked && size == f.Size)
			o := basic(n, zero...)
			o.Mask = mask
			wrong(t, o)
			o.Mask = mask[:0]
			right(t, o)
		}
		wrong(t, masked(basic(n, zero...)))
		wrong(t, masked(basic(n), 1))
		wrong(t, masked(basic(n)))
		wrong(t, masked(basic(n, make([]byte, f.Size-1)...), bit(f.Size+1, 0)...))
		wrong(t, masked(basic(n, make([]byte, f.Size+1)...), bit(f.Size, 0)[1:]...))
	}
}

// OX1: what is neither of the classes, or no field of its class, may not be.
func TestClassAndField(t *testing.T) {
	wrong(t, api.Oxm{})
	for _, n := range far {
		wrong(t, api.Oxm{Class: n, Field: 5, Value: []byte{8, 0}})
		wrong(t, api.Oxm{Class: n, Field: 5, Exp: 7, Value: []byte{8, 0}})
		wrong(t, basic(n, 8, 0))
		wrong(t, extra(n, 7, 8, 0))
	}
	for class := range 70000 {
		o := api.Oxm{Class: class, Field: 5, Value: []byte{8, 0}}
		if Right(o) != (class == api.Basic || class == api.Extra) {
			t.Errorf("Right of %v: %v", o, Right(o))
		}
	}
	for n := -300; n < 600; n++ {
		f, ok := field.Of(n)
		asked(t, basic(n, make([]byte, f.Size)...), ok)
		asked(t, extra(n, 7, 8, 0), n >= 0 && n <= 127)
		asked(t, masked(extra(n, 7, 8, 0), 9, 0), n >= 0 && n <= 127)
	}
}

// OX1: Exp is 0 of the class Basic, and below 2^32 of the class Extra.
func TestExp(t *testing.T) {
	for i := range 64 {
		n := uint64(1) << i
		o := basic(5, 8, 0)
		o.Exp = n
		wrong(t, o)
		for _, exp := range []uint64{n - 1, n, n + 1} {
			asked(t, extra(5, exp, 8, 0), exp < 1<<32)
			asked(t, masked(extra(5, exp, 8, 0), 9, 0), exp < 1<<32)
		}
	}
	wrong(t, extra(5, math.MaxUint64, 8, 0))
}

// OX1: of the class Extra a Value has at most 100 bytes, and a Mask just as many.
func TestExtraSize(t *testing.T) {
	for size := range 300 {
		o := extra(5, 7, make([]byte, size)...)
		asked(t, o, size <= 100)
		asked(t, extra(5, 7, slices.Repeat([]byte{255}, size)...), size <= 100)
		for _, more := range []int{-2, -1, 0, 1, 2} {
			if size+more > 0 {
				asked(t, masked(o, bit(size+more, 0)...), more == 0 && size <= 100)
			}
		}
		wrong(t, masked(o))
		if size > 0 {
			o.Mask = make([]byte, size)
			wrong(t, o)
			o.Mask = []byte{1}
			wrong(t, o)
		}
	}
	wrong(t, extra(5, 7, make([]byte, 65536)...))
	wrong(t, extra(5, 7, make([]byte, 65546)...))
}

// OX1: masks of the class Extra: not all zeros, not all ones, and none of no bytes; each bit of the Value stands in them.
func TestExtraMask(t *testing.T) {
	for _, size := range []int{1, 2, 3, 8, 50, 99, 100} {
		zero, ones := make([]byte, size), full(size, 8*size)
		wrong(t, masked(extra(5, 7, zero...), zero...))
		wrong(t, masked(extra(5, 7, zero...), ones...))
		wrong(t, masked(extra(5, 7, ones...), ones...))
		for i := range 8 * size {
			one := bit(size, i)
			but := new(big.Int).Xor(new(big.Int).SetBytes(ones), new(big.Int).SetBytes(one)).FillBytes(make([]byte, size))
			right(t, masked(extra(5, 7, one...), one...))
			right(t, masked(extra(5, 7, but...), but...))
			right(t, masked(extra(5, 7, zero...), but...))
			wrong(t, masked(extra(5, 7, one...), but...))
			wrong(t, masked(extra(5, 7, but...), one...))
		}
	}
	wrong(t, masked(extra(5, 7)))
	notGot(t, []byte{255, 255, 11, 4, 0, 0, 0, 7}, api.MatchMask)
}

// OX2: each error alone, and of several the one that is named first.
func TestDecodeErrors(t *testing.T) {
	for _, x := range []struct {
		b    []byte
		want api.Errno
	}{
		{nil, api.MatchLen}, {[]byte{}, api.MatchLen}, {[]byte{128}, api.MatchLen}, {[]byte{128, 0, 10}, api.MatchLen},
		// Too few bytes for a head come ahead of a class, or a field, that is none.
		{[]byte{1, 2, 255}, api.MatchLen}, {[]byte{128, 0, 255}, api.MatchLen},
		// No class, whatever else.
		{[]byte{0, 0, 10, 2, 8, 0}, api.MatchField}, {[]byte{0, 1, 10, 2, 8, 0}, api.MatchField}, {[]byte{128, 1, 10, 2, 8, 0}, api.MatchField},
		{[]byte{127, 255, 10, 2, 8, 0}, api.MatchField}, {[]byte{255, 254, 10, 2, 8, 0}, api.MatchField}, {[]byte{0, 128, 11, 9}, api.MatchField},
		// No field, with a mask that it may not have, and a length that may not be.
		{[]byte{128, 0, 80, 2, 8, 0}, api.MatchField}, {[]byte{128, 0, 81, 0}, api.MatchField}, {[]byte{128, 0, 254, 4, 0, 0, 0, 0}, api.MatchField}, {[]byte{128, 0, 255, 255}, api.MatchField},
		// A mask that may not be ahead of a length that may not be.
		{[]byte{128, 0, 11, 4, 8, 0, 8, 0}, api.MatchMask}, {[]byte{128, 0, 11, 0}, api.MatchMask}, {[]byte{128, 0, 1, 9, 0}, api.MatchMask}, {[]byte{128, 0, 63, 255}, api.MatchMask},
		// Lengths of other fields, or of the field with, or without, a mask.
		{[]byte{128, 0, 10, 1, 8}, api.MatchLen}, {[]byte{128, 0, 10, 3, 8, 0, 0}, api.MatchLen}, {[]byte{128, 0, 10, 4, 8, 0, 8, 0}, api.MatchLen}, {[]byte{128, 0, 10, 0}, api.MatchLen},
		{[]byte{128, 0, 25, 4, 10, 0, 0, 0}, api.MatchLen}, {[]byte{128, 0, 25, 7, 10, 0, 0, 0, 255, 0, 0}, api.MatchLen}, {[]byte{128, 0, 24, 8, 10, 0, 0, 0, 255, 0, 0, 0}, api.MatchLen},
		// Fewer bytes than the length tells come ahead of a value, or a mask, that may not be.
		{[]byte{128, 0, 10, 2, 8}, api.MatchLen}, {[]byte{128, 0, 13, 4, 255, 255, 0}, api.MatchLen}, {[]byte{128, 0, 25, 8, 10, 0, 0, 0, 0, 0, 0}, api.MatchLen},
		{[]byte{128, 0, 12, 2, 255}, api.MatchLen}, {[]byte{255, 255, 11, 6, 0, 0, 0, 7, 1}, api.MatchLen}, {[]byte{255, 255, 11, 6, 0, 0, 0}, api.MatchLen},
		// A value that does not fit, ahead of a mask that may not be.
		{[]byte{128, 0, 14, 1, 8}, api.MatchValue}, {[]byte{128, 0, 12, 2, 32, 0}, api.MatchValue}, {[]byte{128, 0, 13, 4, 32, 0, 0, 0}, api.MatchValue}, {[]byte{128, 0, 13, 4, 32, 0, 255, 255}, api.MatchValue},
		{[]byte{128, 0, 57, 8, 0, 16, 0, 0, 0, 16, 0, 0}, api.MatchValue},
		// A mask that does not fit, is all zeros, or all ones as far as the bits go, ahead of a bit that is not in it.
		{[]byte{128, 0, 13, 4, 0, 0, 32, 0}, api.MatchMask}, {[]byte{128, 0, 13, 4, 0, 1, 32, 0}, api.MatchMask}, {[]byte{128, 0, 13, 4, 0, 0, 0, 0}, api.MatchMask}, {[]byte{128, 0, 13, 4, 0, 1, 0, 0}, api.MatchMask},
		{[]byte{128, 0, 13, 4, 0, 0, 31, 255}, api.MatchMask}, {[]byte{128, 0, 13, 4, 0, 0, 255, 255}, api.MatchMask}, {[]byte{128, 0, 25, 8, 10, 0, 0, 0, 255, 255, 255, 255}, api.MatchMask},
		{[]byte{255, 255, 11, 6, 0, 0, 0, 7, 1, 0}, api.MatchMask}, {[]byte{255, 255, 11, 6, 0, 0, 0, 7, 0, 255}, api.MatchMask}, {[]byte{255, 255, 11, 4, 0, 0, 0, 7}, api.MatchMask},
		// A bit that is not in the mask.
		{[]byte{128, 0, 25, 8, 10, 0, 0, 1, 255, 0, 0, 0}, api.MatchWild}, {[]byte{128, 0, 13, 4, 0, 1, 16, 0}, api.MatchWild}, {[]byte{255, 255, 11, 6, 0, 0, 0, 7, 1, 2}, api.MatchWild},
		{[]byte{255, 255, 11, 8, 0, 0, 0, 7, 128, 0, 127, 255}, api.MatchWild},
		// Lengths of the class Extra: below 4, odd with a mask, above 104, with a mask above 204.
		{[]byte{255, 255, 10, 0}, api.MatchLen}, {[]byte{255, 255, 10, 3, 0, 0, 0, 7}, api.MatchLen}, {[]byte{255, 255, 11, 2, 0, 0}, api.MatchLen}, {[]byte{255, 255, 11, 5, 0, 0, 0, 7, 1}, api.MatchLen},
		{append([]byte{255, 255, 10, 105}, make([]byte, 300)...), api.MatchLen}, {append([]byte{255, 255, 10, 204}, make([]byte, 300)...), api.MatchLen},
		{append([]byte{255, 255, 11, 205}, make([]byte, 300)...), api.MatchLen}, {append([]byte{255, 255, 11, 206}, make([]byte, 300)...), api.MatchLen}, {append([]byte{255, 255, 255, 254}, make([]byte, 300)...), api.MatchLen},
		{append([]byte{255, 255, 11, 203}, make([]byte, 300)...), api.MatchLen}, {append([]byte{255, 255, 11, 204}, make([]byte, 300)...), api.MatchMask},
	} {
		notGot(t, x.b, x.want)
		held(t, x.b)
	}
}

// OX2: each second, third and fourth byte of the classes, in front of bytes of many kinds, and cut off anywhere.
func TestDecodeEachHead(t *testing.T) {
	zero := make([]byte, 260)
	ones := slices.Repeat([]byte{255}, 260)
	count := make([]byte, 260)
	for i := range count {
		count[i] = byte(i)
	}
	for _, class := range [][]byte{{128, 0}, {255, 255}} {
		for n := range 256 {
			for length := range 256 {
				for _, behind := range [][]byte{zero, ones, count} {
					b := slices.Concat(class, []byte{byte(n), byte(length)}, behind)
					held(t, b)
					held(t, b[:4+length])
					held(t, b[:4+max(length-1, 0)])
				}
			}
		}
	}
}

// OX2: of each class but two nothing is decoded.
func TestDecodeEachClass(t *testing.T) {
	for class := range 65536 {
		b := []byte{byte(class >> 8), byte(class), 12, 2, 0, 5, 0, 0}
		switch class {
		case api.Basic:
			got(t, b, basic(6, 0, 5))
		case api.Extra:
			notGot(t, b, api.MatchLen)
		default:
			notGot(t, b, api.MatchField)
		}
	}
}

// samples are values that may be, of each field, with a mask and without.
func samples() []api.Oxm {
	l := []api.Oxm{extra(0, 0), extra(127, math.MaxUint32, full(100, 799)...), extra(39, 0x01020304, 1, 2, 3),
		masked(extra(0, 7, 1), 3), masked(extra(127, 1<<31, bit(100, 3)...), full(100, 5)...)}
	for n := range api.Fields {
		f, _ := field.Of(n)
		l = append(l, basic(n, bit(f.Size, f.Bits-1)...))
		if f.Masked {
			l = append(l, masked(basic(n, bit(f.Size, f.Bits/2)...), full(f.Size, f.Bits-1)...))
		}
	}
	return l
}

// OX2: with fewer bytes than it has there is none, wherever they are cut off, and whatever lies behind in memory.
func TestDecodeCutOff(t *testing.T) {
	for _, o := range samples() {
		b := plain(o)
		for n := range b {
			notGot(t, b[:n], api.MatchLen)
		}
		got(t, b, o)
	}
}

// OX2, OX4: one behind the other, they are decoded one by one.
func TestDecodeOneByOne(t *testing.T) {
	var all []byte
	for _, o := range samples() {
		all = append(all, plain(o)...)
	}
	for _, want := range samples() {
		o, n, e := Decode(all)
		if e != api.OK || !equal(o, want) {
			t.Fatalf("Decode: %v, %d, %d; not %v", o, n, e, want)
		}
		all = all[n:]
	}
	if len(all) != 0 {
		t.Errorf("%d bytes are left", len(all))
	}
}

// OX4: what was encoded is decoded, whatever is behind.
func TestWhatFollows(t *testing.T) {
	for _, o := range samples() {
		right(t, o)
		b, _ := Encode(o)
		for _, behind := range []byte{0, 1, 128, 255} {
			got(t, append(slices.Clone(b), slices.Repeat([]byte{behind}, 70000)...), o)
		}
	}
}

// OX2: each change of one byte of a value's bytes is what the chapter's clauses tell.
func TestDecodeChanged(t *testing.T) {
	for _, o := range samples() {
		b := plain(o)
		for i := range b {
			for x := range 256 {
				changed := slices.Clone(b)
				changed[i] = byte(x)
				held(t, changed)
			}
		}
	}
}

// others are values of which each differs from the first one in one thing.
func others() []api.Oxm {
	one := masked(extra(5, 7, 1, 2), 3, 4)
	l := []api.Oxm{one}
	for _, change := range []func(o *api.Oxm){
		func(o *api.Oxm) { o.Class = api.Basic },
		func(o *api.Oxm) { o.Class += 1 << 32 },
		func(o *api.Oxm) { o.Field = 6 },
		func(o *api.Oxm) { o.Field = -5 },
		func(o *api.Oxm) { o.Exp = 8 },
		func(o *api.Oxm) { o.Exp += 1 << 32 },
		func(o *api.Oxm) { o.Has = false },
		func(o *api.Oxm) { o.Value = []byte{1, 3} },
		func(o *api.Oxm) { o.Value = []byte{0, 2} },
		func(o *api.Oxm) { o.Value = []byte{1} },
		func(o *api.Oxm) { o.Value = []byte{1, 2, 0} },
		func(o *api.Oxm) { o.Value = nil },
		func(o *api.Oxm) { o.Mask = []byte{3, 5} },
		func(o *api.Oxm) { o.Mask = []byte{4, 3} },
		func(o *api.Oxm) { o.Mask = []byte{3} },
		func(o *api.Oxm) { o.Mask = []byte{3, 4, 0} },
		func(o *api.Oxm) { o.Mask = nil },
		func(o *api.Oxm) { o.Value, o.Mask = o.Mask, o.Value },
		func(o *api.Oxm) { o.Value, o.Mask = []byte{1, 2, 3}, []byte{4} },
		func(o *api.Oxm) { *o = api.Oxm{} },
	} {
		o := clone(one)
		change(&o)
		l = append(l, o)
	}
	return l
}

// OX3: two are the same just if all fields are, whether they may be or not.
func TestSame(t *testing.T) {
	for i, a := range others() {
		for j, b := range others() {
			if Same(a, b) != (i == j) {
				t.Errorf("Same of %v, %v: %v", a, b, Same(a, b))
			}
		}
	}
	for i, a := range samples() {
		for j, b := range samples() {
			if Same(a, b) != (i == j) {
				t.Errorf("Same of %v, %v: %v", a, b, Same(a, b))
			}
		}
	}
	// No bytes may be nil or empty, and what lies behind is of no matter.
	if !Same(api.Oxm{}, api.Oxm{Value: []byte{}, Mask: []byte{9}[:0]}) {
		t.Error("nil and empty are not the same")
	}
	if !Same(basic(5, []byte{8, 0, 1}[:2]...), basic(5, []byte{8, 0, 2}[:2]...)) {
		t.Error("what lies behind is looked at")
	}
}

// OX3: two are alike just if Class, Field and Exp are the same, whatever else they have.
func TestAlike(t *testing.T) {
	for _, a := range append(others(), samples()...) {
		for _, b := range append(others(), samples()...) {
			want := a.Class == b.Class && a.Field == b.Field && a.Exp == b.Exp
			if Alike(a, b) != want || Alike(b, a) != want {
				t.Errorf("Alike of %v, %v: %v, %v", a, b, Alike(a, b), Alike(b, a))
			}
		}
	}
	for _, x := range []struct {
		a, b api.Oxm
		want bool
	}{
		{api.Oxm{}, api.Oxm{}, true}, {basic(5, 8, 0), basic(5, 8, 6), true}, {basic(5, 8, 0), basic(5), true}, {basic(12, 1), masked(basic(12, 1), 1), true},
		{basic(5, 8, 0), basic(6, 8, 0), false}, {basic(5, 8, 0), extra(5, 0, 8, 0), false}, {extra(5, 7, 1), extra(5, 7, 2), true}, {extra(5, 7, 1), extra(5, 8, 1), false},
		{basic(-5), basic(-5), true}, {basic(-5), basic(5), false}, {extra(5, 1<<32), extra(5, 0), false},
	} {
		if Alike(x.a, x.b) != x.want {
			t.Errorf("Alike of %v, %v: %v", x.a, x.b, !x.want)
		}
	}
}

// OX3: a copy is the same, whether it may be or not, in memory of its own.
func TestCopy(t *testing.T) {
	for _, o := range slices.Concat(others(), samples(), []api.Oxm{{}, {Value: []byte{}, Mask: []byte{}}, {Class: -1, Field: math.MinInt, Exp: math.MaxUint64, Value: make([]byte, 70000)}}) {
		was := clone(o)
		c := Copy(o)
		if !equal(c, was) || !equal(o, was) {
			t.Errorf("Copy of %v: %v", was, c)
		}
		spoil(c)
		if !equal(o, was) {
			t.Errorf("who changed a copy of %v changed it to %v", was, o)
		}
		c = Copy(o)
		spoil(o)
		if !equal(c, was) {
			t.Errorf("who changed %v changed its copy to %v", was, c)
		}
	}
}

// spoil changes all bytes of a value, and what lies behind them in memory.
func spoil(o api.Oxm) {
	for _, l := range [][]byte{o.Value, o.Mask} {
		l = l[:cap(l)]
		for i := range l {
			l[i] ^= 255
		}
	}
}

// OX2, OX3: Value and Mask of an answer share no memory, with one another or with what was handed in.
func TestNewMemory(t *testing.T) {
	for _, o := range samples() {
		was, b := clone(o), plain(o)
		first, _, _ := Decode(b)
		second, _, _ := Decode(b)
		clear(b)
		if !equal(first, was) {
			t.Errorf("who changed the bytes changed %v to %v", was, first)
		}
		_ = append(first.Value, 9, 9, 9)
		if !equal(first, was) {
			t.Errorf("who wrote behind the Value of %v changed it to %v", was, first)
		}
		spoil(api.Oxm{Value: first.Value})
		if !slices.Equal(first.Mask, was.Mask) {
			t.Errorf("who changed the Value of %v changed the Mask to %v", was, first.Mask)
		}
		spoil(api.Oxm{Mask: first.Mask})
		if !equal(second, was) {
			t.Errorf("who changed one answer changed another to %v", second)
		}
		x, _ := Encode(o)
		spoil(api.Oxm{Value: x})
		if !equal(o, was) {
			t.Errorf("who changed the bytes of %v changed it to %v", was, o)
		}
	}
}

// OX1, OX2: what lies behind a list in memory is neither read nor written.
func TestBehindInMemory(t *testing.T) {
	value, mask := []byte{10, 0, 0, 0, 77, 77, 77, 77}, []byte{255, 0, 0, 0, 77, 77, 77, 77}
	o := masked(basic(12, value[:4]...), mask[:4]...)
	right(t, o)
	Copy(o)
	if !slices.Equal(value[4:], []byte{77, 77, 77, 77}) || !slices.Equal(mask[4:], []byte{77, 77, 77, 77}) {
		t.Errorf("%v, %v", value, mask)
	}
	b := append(plain(o), 77, 77)
	notGot(t, b[:len(b)-3], api.MatchLen)
	got(t, b[:len(b)-2], o)
	if !bytes.HasSuffix(b, []byte{77, 77}) {
		t.Errorf("%v", b)
	}
}

// OX2, OX4: whatever the bytes, they are what the chapter's clauses tell, and again those bytes.
func FuzzDecode(f *testing.F) {
	for _, o := range samples() {
		f.Add(plain(o))
	}
	f.Add([]byte{})
	f.Add([]byte{128, 0, 13, 4, 0, 1, 16, 0, 7})
	f.Add([]byte{255, 255, 11, 204})
	f.Fuzz(func(t *testing.T, b []byte) {
		held(t, b)
		// Most bytes are of no class: the same of both.
		for _, class := range [][]byte{{128, 0}, {255, 255}} {
			if len(b) >= 2 {
				held(t, slices.Concat(class, b[2:]))
			}
		}
	})
}

// OX1, OX4: whatever a value has, it may be just if the chapter's words say so, and then its bytes are itself.
func FuzzRight(f *testing.F) {
	f.Add(api.Basic, 5, false, uint64(0), []byte{8, 0}, []byte{})
	f.Add(api.Basic, 12, true, uint64(0), []byte{10, 0, 0, 0}, []byte{255, 0, 0, 0})
	f.Add(api.Basic, 40, false, uint64(0), []byte{}, []byte{})
	f.Add(api.Extra, 127, true, uint64(math.MaxUint32), []byte{1}, []byte{3})
	f.Add(-1, -1, true, uint64(math.MaxUint64), []byte{}, []byte{1})
	f.Fuzz(func(t *testing.T, class, n int, has bool, exp uint64, value, mask []byte) {
		for _, c := range []int{class, api.Basic, api.Extra} {
			o := api.Oxm{Class: c, Field: n, Has: has, Exp: exp, Value: value, Mask: mask}
			asked(t, o, mayBe(o))
			o.Exp = 0
			asked(t, o, mayBe(o))
			if c := Copy(o); !equal(c, o) || !Same(c, o) || !Alike(c, o) {
				t.Errorf("Copy of %v: %v", o, c)
			}
		}
	})
}
