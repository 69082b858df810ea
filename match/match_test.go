package match

import (
	"bytes"
	"math"
	"math/rand"
	"slices"
	"testing"

	"gunwale/api"
	"gunwale/buffer"
	"gunwale/cursor"
	"gunwale/field"
	"gunwale/need"
	"gunwale/oxm"
)

// basic is a value without a mask.
func basic(n int, value ...byte) api.Oxm {
	return api.Oxm{Class: api.Basic, Field: n, Value: value}
}

// masked is the same with a mask.
func masked(o api.Oxm, mask ...byte) api.Oxm {
	o.Has, o.Mask = true, mask
	return o
}

// extra is a value of the class Extra.
func extra(n int, exp uint64, value ...byte) api.Oxm {
	return api.Oxm{Class: api.Extra, Field: n, Exp: exp, Value: value}
}

// full is a value of a field, its number told in as many bytes as it has.
func full(n int, number uint64) api.Oxm {
	f, _ := field.Of(n)
	value := make([]byte, f.Size)
	for i := range min(f.Size, 8) {
		value[f.Size-1-i] = byte(number >> (8 * i))
	}
	return basic(n, value...)
}

// tcp is a match of a TCP port.
func tcp() []api.Oxm {
	return []api.Oxm{basic(5, 8, 0), basic(10, 6), basic(14, 0, 80)}
}

// equalOne holds two values against one another without oxm.
func equalOne(a, b api.Oxm) bool {
	return a.Class == b.Class && a.Field == b.Field && a.Has == b.Has && a.Exp == b.Exp && slices.Equal(a.Value, b.Value) && slices.Equal(a.Mask, b.Mask)
}

// equal holds two lists against one another without Same.
func equal(a, b []api.Oxm) bool { return slices.EqualFunc(a, b, equalOne) }

// clone is a copy of a list without Copy.
func clone(l []api.Oxm) []api.Oxm {
	c := slices.Clone(l)
	for i, o := range c {
		c[i].Value, c[i].Mask = slices.Clone(o.Value), slices.Clone(o.Mask)
	}
	return c
}

// flip changes all bits.
func flip(b []byte) {
	for i := range b {
		b[i] ^= 255
	}
}

// spoil changes all bytes of a list's values, and what lies behind them and the list in memory.
func spoil(l []api.Oxm) {
	for _, o := range l {
		flip(o.Value[:cap(o.Value)])
		flip(o.Mask[:cap(o.Mask)])
	}
	l = l[:cap(l)]
	for i := range l {
		l[i].Class, l[i].Field, l[i].Has, l[i].Exp = -7, -7, !l[i].Has, 77
	}
}

// body is the bytes of the values, told as plainly as can be.
func body(l []api.Oxm) []byte {
	var b []byte
	for _, o := range l {
		behind := slices.Concat(o.Value, o.Mask)
		if o.Class == api.Extra {
			behind = slices.Concat([]byte{byte(o.Exp >> 24), byte(o.Exp >> 16), byte(o.Exp >> 8), byte(o.Exp)}, behind)
		}
		second := byte(2 * o.Field)
		if o.Has {
			second++
		}
		b = append(append(b, byte(o.Class>>8), byte(o.Class), second, byte(len(behind))), behind...)
	}
	return b
}

// framed is bytes with a match's head ahead of them and its zeros behind them, whether they are values or not.
func framed(b ...byte) []byte {
	n := 4 + len(b)
	b = append([]byte{0, 1, byte(n >> 8), byte(n)}, b...)
	for len(b)%8 != 0 {
		b = append(b, 0)
	}
	return b
}

// plain is the bytes of a match.
func plain(l []api.Oxm) []byte { return framed(body(l)...) }

// isMatch is Right, told as the chapter words it.
func isMatch(l []api.Oxm) bool {
	_, e := need.Check(l)
	n := 4
	for _, o := range l {
		n += oxm.Size(o)
	}
	return e == api.OK && n <= 65528 && !slices.ContainsFunc(l, func(o api.Oxm) bool { return !oxm.Right(o) })
}

// decoded is Decode, told clause by clause as the chapter lists them.
func decoded(b []byte) ([]api.Oxm, int, api.Errno) {
	if len(b) < 4 {
		return nil, 0, api.MatchLen
	}
	if b[0] != 0 || b[1] != 1 {
		return nil, 0, api.MatchType
	}
	n := 256*int(b[2]) + int(b[3])
	size := (n + 7) / 8 * 8
	if n < 4 || n > 65528 || len(b) < size {
		return nil, 0, api.MatchLen
	}
	var l []api.Oxm
	for left := b[4:n]; len(left) > 0; {
		o, used, e := oxm.Decode(left)
		if e != api.OK {
			return nil, 0, e
		}
		l, left = append(l, o), left[used:]
		if _, e := need.Check(l); e != api.OK {
			return nil, 0, e
		}
	}
	if slices.ContainsFunc(b[n:size], func(x byte) bool { return x != 0 }) {
		return nil, 0, api.MatchLen
	}
	return l, size, api.OK
}

// right asks for a match: its bytes, and, of these, for itself, whatever is behind; and that none of this changes what is handed in.
func right(t *testing.T, l []api.Oxm) {
	t.Helper()
	was, want := clone(l), plain(l)
	if !Right(l) {
		t.Errorf("Right of %v: false", l)
	}
	if b, e := Encode(l); e != api.OK || !slices.Equal(b, want) {
		t.Errorf("Encode of %v: %v, %d; not %v", l, b, e, want)
	}
	put(t, l, want, api.OK)
	for _, behind := range [][]byte{nil, {0}, {255}, {128, 0, 10, 2, 8, 0}, make([]byte, 300)} {
		got(t, slices.Concat(want, behind), was)
	}
	if c := Copy(l); !equal(c, was) || !Same(c, l) {
		t.Errorf("Copy of %v: %v", l, c)
	}
	if !equal(l, was) {
		t.Errorf("%v was changed to %v", was, l)
	}
}

// wrong asks for a list that is no match.
func wrong(t *testing.T, l []api.Oxm) {
	t.Helper()
	was := clone(l)
	if Right(l) {
		t.Errorf("Right of %v: true", l)
	}
	if b, e := Encode(l); e != api.ErrArg || len(b) != 0 {
		t.Errorf("Encode of %v: %v, %d", l, b, e)
	}
	put(t, l, nil, api.ErrArg)
	if c := Copy(l); !equal(c, was) || !Same(c, l) {
		t.Errorf("Copy of %v: %v", l, c)
	}
	if !equal(l, was) {
		t.Errorf("%v was changed to %v", was, l)
	}
}

// asked asks for a list, which may be a match or not.
func asked(t *testing.T, l []api.Oxm, may bool) {
	t.Helper()
	if may {
		right(t, l)
	} else {
		wrong(t, l)
	}
}

// put asks Put to write a list behind three bytes, to no multiple of 8.
func put(t *testing.T, l []api.Oxm, want []byte, wantE api.Errno) {
	t.Helper()
	b := buffer.New(100000)
	b.Bytes([]byte{7, 8, 9})
	Put(b, l)
	if b.Len() != 3+len(want) {
		t.Errorf("Put of %v: %d bytes, not %d", l, b.Len()-3, len(want))
	}
	all, e := b.Done()
	if e != wantE || e == api.OK && !slices.Equal(all, append([]byte{7, 8, 9}, want...)) {
		t.Errorf("Put of %v: %v, %d; not %v, %d", l, all, e, want, wantE)
	}
}

// got asks Decode and Take for a match.
func got(t *testing.T, b []byte, want []api.Oxm) {
	t.Helper()
	was, size := slices.Clone(b), len(plain(want))
	if l, n, e := Decode(b); e != api.OK || n != size || !equal(l, want) {
		t.Errorf("Decode of %v: %v, %d, %d; not %v, %d", b, l, n, e, want, size)
	}
	if !slices.Equal(b, was) {
		t.Errorf("Decode changed %v to %v", was, b)
	}
	c := behind(b)
	if l := Take(c); c.Err() != api.OK || c.At() != 3+size || c.Left() != len(b)-size || !equal(l, want) {
		t.Errorf("Take of %v: %v, %d, at %d, %d left; not %v", b, l, c.Err(), c.At(), c.Left(), want)
	}
	if rest := c.Rest(); !slices.Equal(rest, b[size:]) {
		t.Errorf("Take of %v leaves %v", b, rest)
	}
}

// behind is a cursor that has read three bytes ahead of those.
func behind(b []byte) *cursor.Cursor {
	c := cursor.New(append([]byte{0, 1, 0}, b...), api.ErrShort, api.ErrState)
	c.Bytes(3)
	return c
}

// notGot asks Decode and Take for an error, and nothing beside it.
func notGot(t *testing.T, b []byte, want api.Errno) {
	t.Helper()
	was := slices.Clone(b)
	if l, n, e := Decode(b); e != want || n != 0 || len(l) != 0 {
		t.Errorf("Decode of %v: %v, %d, %d; not %d", b, l, n, e, want)
	}
	if !slices.Equal(b, was) {
		t.Errorf("Decode changed %v to %v", was, b)
	}
	c := behind(b)
	if l := Take(c); c.Err() != want || c.At() != 3 || c.Left() != len(b) || len(l) != 0 {
		t.Errorf("Take of %v: %v, %d, at %d, %d left; not %d", b, l, c.Err(), c.At(), c.Left(), want)
	}
}

// held asks Decode for what the chapter's clauses tell of bytes; what is decoded is a match, and those bytes.
func held(t *testing.T, b []byte) {
	t.Helper()
	l, n, e := decoded(b)
	if e != api.OK {
		notGot(t, b, e)
		return
	}
	got(t, b, l)
	again, e := Encode(l)
	if !Right(l) || e != api.OK || !slices.Equal(again, b[:n]) {
		t.Errorf("Encode of what %v is: %v, %d", b, again, e)
	}
}

// The chapter's example, and those of the whole that are about a match.
func TestExample(t *testing.T) {
	none := []byte{0, 1, 0, 4, 0, 0, 0, 0}
	for _, l := range [][]api.Oxm{nil, {}} {
		if b, e := Encode(l); e != api.OK || !slices.Equal(b, none) {
			t.Errorf("Encode of nothing: %v, %d", b, e)
		}
		right(t, l)
	}
	if l, n, e := Decode(none); e != api.OK || n != 8 || len(l) != 0 {
		t.Errorf("Decode of nothing: %v, %d, %d", l, n, e)
	}
	notGot(t, plain(tcp()[2:]), api.MatchNeed)
	wrong(t, tcp()[2:])
	right(t, tcp())
}

// MA1: bytes spelt out, both ways.
func TestBytes(t *testing.T) {
	for _, x := range []struct {
		l []api.Oxm
		b []byte
	}{
		{[]api.Oxm{basic(0, 0, 0, 0, 7)}, []byte{0, 1, 0, 12, 128, 0, 0, 4, 0, 0, 0, 7, 0, 0, 0, 0}},
		{[]api.Oxm{basic(5, 8, 0)}, []byte{0, 1, 0, 10, 128, 0, 10, 2, 8, 0, 0, 0, 0, 0, 0, 0}},
		{tcp(), []byte{0, 1, 0, 21, 128, 0, 10, 2, 8, 0, 128, 0, 20, 1, 6, 128, 0, 28, 2, 0, 80, 0, 0, 0}},
		{[]api.Oxm{masked(basic(6, 16, 0), 16, 0), basic(7, 5)}, []byte{0, 1, 0, 17, 128, 0, 13, 4, 16, 0, 16, 0, 128, 0, 14, 1, 5, 0, 0, 0, 0, 0, 0, 0}},
		{[]api.Oxm{masked(basic(2, 0, 0, 0, 0, 0, 0, 0, 1), 0, 0, 0, 0, 0, 0, 0, 3)}, []byte{0, 1, 0, 24, 128, 0, 5, 16, 0, 0, 0, 0, 0, 0, 0, 1, 0, 0, 0, 0, 0, 0, 0, 3}},
		{[]api.Oxm{masked(extra(127, 0x01020304, 1), 3), basic(5, 8, 0)}, []byte{0, 1, 0, 20, 255, 255, 255, 6, 1, 2, 3, 4, 1, 3, 128, 0, 10, 2, 8, 0, 0, 0, 0, 0}},
	} {
		if b, e := Encode(x.l); e != api.OK || !slices.Equal(b, x.b) {
			t.Errorf("Encode of %v: %v, %d; not %v", x.l, b, e, x.b)
		}
		if l, n, e := Decode(x.b); e != api.OK || n != len(x.b) || !equal(l, x.l) {
			t.Errorf("Decode of %v: %v, %d, %d; not %v", x.b, l, n, e, x.l)
		}
		right(t, x.l)
	}
}

// chains are lists of what a field asks for, each way in which it may be asked for, and of it at last.
func chains(n int) [][]api.Oxm {
	f, _ := field.Of(n)
	if f.Need < 0 {
		return [][]api.Oxm{{full(n, 1)}}
	}
	values := f.Values
	if len(values) == 0 {
		values = []uint64{1}
	}
	var all [][]api.Oxm
	for _, ahead := range chains(f.Need) {
		for _, v := range values {
			ahead[len(ahead)-1] = full(f.Need, v)
			l := append(clone(ahead), full(n, 1))
			if _, e := need.Check(l); e == api.OK {
				all = append(all, l)
			}
		}
	}
	return all
}

// MA1, MA3: each field behind all that it asks for, without each of that, behind itself, and backwards.
func TestEachField(t *testing.T) {
	for n := range api.Fields {
		if len(chains(n)) == 0 {
			t.Errorf("of %d there is no list", n)
		}
		for _, l := range chains(n) {
			right(t, l)
			for i := range l[:len(l)-1] {
				without := slices.Delete(clone(l), i, i+1)
				wrong(t, without)
				notGot(t, plain(without), api.MatchNeed)
			}
			for i := range l {
				twice := append(clone(l), l[i])
				wrong(t, twice)
				notGot(t, plain(twice), api.MatchTwice)
			}
			if len(l) > 1 {
				slices.Reverse(l)
				wrong(t, l)
				notGot(t, plain(l), api.MatchNeed)
			}
		}
	}
}

// MA1: lists with a value that may not be, wherever it stands, are no match.
func TestValuesThatMayNotBe(t *testing.T) {
	lone := api.Oxm{Class: api.Basic, Field: 3, Value: make([]byte, 6), Mask: []byte{1}}
	own := basic(3, make([]byte, 6)...)
	own.Exp = 1
	for _, o := range []api.Oxm{{}, {Class: -1}, basic(-1), basic(40), basic(3), basic(3, 1, 2, 3), basic(3, make([]byte, 7)...), lone, own, {Class: 1<<32 + api.Basic, Field: 3, Value: make([]byte, 6)},
		masked(basic(3, make([]byte, 6)...)), masked(basic(3, make([]byte, 6)...), make([]byte, 6)...), masked(basic(3, make([]byte, 6)...), 255, 255, 255, 255, 255, 255), masked(basic(3, 1, 0, 0, 0, 0, 0), 2, 0, 0, 0, 0, 0),
		masked(basic(0, 0, 0, 0, 0), 1, 0, 0, 0), basic(6, 32, 0), extra(128, 0), extra(-1, 0), extra(0, 1<<32), extra(0, math.MaxUint64), extra(0, 0, make([]byte, 101)...), masked(extra(0, 0)), masked(extra(0, 0, 1), 255)} {
		for i := range 4 {
			l := slices.Insert(tcp(), i, o)
			wrong(t, l)
		}
		wrong(t, []api.Oxm{o})
	}
}

// MA1: what may not stand behind those ahead of it makes no match.
func TestRight(t *testing.T) {
	for _, x := range []struct {
		l    []api.Oxm
		want bool
	}{
		{tcp()[:1], true}, {tcp()[:2], true}, {tcp()[1:], false}, {[]api.Oxm{basic(5, 8, 6), basic(10, 6)}, false}, {[]api.Oxm{basic(5, 8, 0), basic(10, 17), basic(14, 0, 80)}, false},
		{[]api.Oxm{basic(10, 6), basic(5, 8, 0)}, false}, {[]api.Oxm{basic(6, 0, 0), basic(7, 1)}, false}, {[]api.Oxm{basic(6, 16, 0), basic(7, 1)}, true}, {[]api.Oxm{masked(basic(6, 16, 0), 16, 0), basic(7, 1)}, true},
		{[]api.Oxm{basic(0, 0, 0, 0, 0), basic(1, 0, 0, 0, 1)}, false}, {[]api.Oxm{basic(0, 0, 0, 0, 1), basic(1, 0, 0, 0, 1)}, true},
		{[]api.Oxm{basic(12, 10, 0, 0, 1)}, false}, {[]api.Oxm{basic(5, 8, 0), basic(12, 10, 0, 0, 1), masked(basic(11, 10, 0, 0, 0), 255, 0, 0, 0)}, true},
		{[]api.Oxm{basic(5, 8, 0), basic(12, 10, 0, 0, 1), masked(basic(12, 10, 0, 0, 0), 255, 0, 0, 0)}, false}, {[]api.Oxm{basic(5, 8, 0), basic(5, 8, 0)}, false}, {[]api.Oxm{basic(5, 8, 0), basic(5, 8, 6)}, false},
		{[]api.Oxm{extra(1, 7, 1), extra(1, 7, 2)}, false}, {[]api.Oxm{extra(1, 7, 1), extra(1, 8, 1), extra(2, 7, 1), basic(5, 8, 0), extra(5, 0, 8, 0)}, true}, {[]api.Oxm{extra(5, 0, 8, 0), basic(10, 6)}, false},
	} {
		asked(t, x.l, x.want)
		if isMatch(x.l) != x.want {
			t.Errorf("isMatch of %v: %v", x.l, !x.want)
		}
		held(t, plain(x.l))
	}
}

// long is a list of values of the class Extra whose length is just so much: it is no match just if that is too long.
func long(n, each int) []api.Oxm {
	var l []api.Oxm
	for left := n - 4; left > 0; {
		size := left
		// What is left must be the bytes of values, each of at least 8.
		if left >= each+8 {
			size = each
		} else if left > 108 {
			size = left - 8
		}
		l = append(l, extra(len(l)%128, uint64(len(l)), slices.Repeat([]byte{byte(len(l))}, size-8)...))
		left -= size
	}
	return l
}

// MA1: the length is 65528 at most; so are 65529, and lengths that 2 bytes would cut off to one that may be, none.
func TestLongest(t *testing.T) {
	for _, each := range []int{108, 101, 50, 13} {
		for n := 65510; n < 65550; n++ {
			l := long(n, each)
			if len(body(l)) != n-4 {
				t.Fatalf("%d bytes of %d", len(body(l)), n-4)
			}
			asked(t, l, n <= 65528)
		}
	}
	for _, n := range []int{65536 + 4, 65536 + 12, 65536 + 1000, 2*65536 + 16, 3*65536 - 8, 999999, 1000000, 1000004, 1100000} {
		l := long(n, 100)
		if Right(l) {
			t.Errorf("Right of the length %d", n)
		}
		if b, e := Encode(l); e != api.ErrArg || len(b) != 0 {
			t.Errorf("Encode of the length %d: %d bytes, %d", n, len(b), e)
		}
	}
	// One value that may not be, or may not stand there, at the end of a match that is as long as may be.
	l := long(65528-5, 108)
	right(t, append(clone(l), basic(36, 1))[:len(l)])
	wrong(t, append(clone(l), basic(36, 1)))
	wrong(t, append(clone(l), l[0]))
	right(t, append([]api.Oxm{basic(5, 136, 71), basic(36, 1)}, long(65528-11, 108)...))
	wrong(t, append([]api.Oxm{basic(5, 136, 71), basic(36, 1)}, long(65529-11, 108)...))
}

// MA1, MA3: as many values as a match may have.
func TestMost(t *testing.T) {
	l := long(4+8*8189, 8)
	if len(l) < 8180 {
		t.Fatalf("%d values", len(l))
	}
	right(t, l)
	right(t, append(l, extra(7, 1<<30)))
	wrong(t, append(l, extra(7, 1<<30), extra(7, 1<<31)))
	notGot(t, plain(append(l[:len(l):len(l)], l[0])), api.MatchTwice)
	notGot(t, plain(append(l[:len(l):len(l)], basic(10, 6))), api.MatchNeed)
}

// MA1: lengths that may not be, and more bytes than a match has.
func TestDecodeLengths(t *testing.T) {
	for n := 65510; n < 65536; n++ {
		b := plain(long(n, 108))
		want := api.OK
		if n > 65528 {
			want = api.MatchLen
		}
		for _, more := range []int{0, 1, 8, 70000} {
			if _, _, e := Decode(append(b, make([]byte, more)...)); e != want {
				t.Errorf("Decode of the length %d: %d", n, e)
			}
		}
		notGot(t, b[:len(b)-1], api.MatchLen)
	}
	zero, ones := make([]byte, 66000), slices.Repeat([]byte{255}, 66000)
	for n := range 65536 {
		for _, behind := range [][]byte{zero, ones} {
			b := append([]byte{0, 1, byte(n >> 8), byte(n)}, behind[:20]...)
			want := api.MatchLen
			switch {
			case n == 4:
				want = api.OK
				if behind[0] != 0 {
					want = api.MatchLen
				}
			// Of fewer than 4 bytes there is no value.
			case n > 7 && n <= 24:
				want = api.MatchField
				if behind[0] != 0 {
					want = api.MatchLen
				}
			}
			if _, _, e := Decode(b); e != want {
				t.Errorf("Decode of the length %d in front of %d: %d, not %d", n, behind[0], e, want)
			}
		}
	}
}

// MA1: of all numbers with which bytes may begin, 1 alone is a match's.
func TestDecodeEachType(t *testing.T) {
	for n := range 65536 {
		for _, b := range [][]byte{plain(tcp()), {0, 0, 0, 4, 0, 0, 0, 0}, {0, 0, 0, 3}, {0, 0, 255, 255}, {0, 0, 0, 12, 0, 0, 0}} {
			b[0], b[1] = byte(n>>8), byte(n)
			_, _, e := Decode(b)
			if _, _, want := decoded(b); e != want || n != 1 && e != api.MatchType {
				t.Errorf("Decode of %v: %d, not %d", b, e, want)
			}
		}
	}
}

// MA1: each error alone, and of several the one that is named first.
func TestDecodeErrors(t *testing.T) {
	for _, x := range []struct {
		b    []byte
		want api.Errno
	}{
		// Too few bytes for a head, ahead of what else may be wrong.
		{nil, api.MatchLen}, {[]byte{}, api.MatchLen}, {[]byte{0}, api.MatchLen}, {[]byte{0, 1}, api.MatchLen}, {[]byte{0, 1, 0}, api.MatchLen}, {[]byte{0, 0, 0}, api.MatchLen}, {[]byte{9, 9}, api.MatchLen}, {[]byte{1, 0, 0}, api.MatchLen},
		// No match, ahead of a length that may not be.
		{[]byte{0, 0, 0, 4, 0, 0, 0, 0}, api.MatchType}, {[]byte{1, 0, 0, 4, 0, 0, 0, 0}, api.MatchType}, {[]byte{1, 1, 0, 4, 0, 0, 0, 0}, api.MatchType}, {[]byte{0, 2, 0, 0}, api.MatchType}, {[]byte{255, 255, 255, 255}, api.MatchType},
		// Lengths below 4, and fewer bytes than the length, or than its zeros.
		{[]byte{0, 1, 0, 0, 0, 0, 0, 0}, api.MatchLen}, {[]byte{0, 1, 0, 3, 0, 0, 0, 0}, api.MatchLen}, {[]byte{0, 1, 0, 0}, api.MatchLen}, {[]byte{0, 1, 0, 4}, api.MatchLen}, {[]byte{0, 1, 0, 4, 0, 0, 0}, api.MatchLen},
		{[]byte{0, 1, 0, 8, 0, 0, 0}, api.MatchLen}, {[]byte{0, 1, 0, 9, 0, 0, 0, 0}, api.MatchLen}, {[]byte{0, 1, 0, 9, 0, 0, 0, 0, 0, 0, 0, 0, 0, 0, 0}, api.MatchLen}, {[]byte{0, 1, 4, 0, 0, 0, 0, 0}, api.MatchLen},
		// That comes ahead of what is wrong with the values.
		{[]byte{0, 1, 0, 10, 0, 0, 10, 2, 8, 0, 0, 0, 0, 0, 0}, api.MatchLen}, {[]byte{0, 1, 0, 9, 128, 0, 20, 1, 6, 0, 0}, api.MatchLen},
		// Layer 8's errors.
		{framed(0), api.MatchLen}, {framed(128, 0, 10), api.MatchLen}, {framed(0, 0, 10, 2, 8, 0), api.MatchField}, {framed(128, 0, 80, 2, 8, 0), api.MatchField}, {framed(128, 0, 11, 4, 8, 0, 8, 0), api.MatchMask},
		{framed(128, 0, 10, 3, 8, 0, 0), api.MatchLen}, {framed(128, 0, 12, 2, 255, 255), api.MatchValue}, {framed(128, 0, 13, 4, 0, 0, 0, 0), api.MatchMask}, {framed(128, 0, 13, 4, 0, 1, 16, 0), api.MatchWild},
		// A value that goes on behind the length, where there are bytes.
		{[]byte{0, 1, 0, 9, 128, 0, 10, 2, 8, 0, 0, 0, 0, 0, 0, 0}, api.MatchLen}, {[]byte{0, 1, 0, 7, 128, 0, 10, 2, 8, 0}, api.MatchLen}, {[]byte{0, 1, 0, 8, 128, 0, 10, 2, 8, 0, 0, 0, 0, 0, 0, 0}, api.MatchLen},
		{[]byte{0, 1, 0, 11, 128, 0, 10, 2, 8, 0, 128, 0, 20, 1, 6, 0}, api.MatchLen}, {[]byte{0, 1, 0, 7, 0, 0, 0, 0}, api.MatchLen}, {[]byte{0, 1, 0, 5, 0, 0, 0, 0}, api.MatchLen},
		// Behind what is right.
		{framed(128, 0, 10, 2, 8, 0, 0), api.MatchLen}, {framed(128, 0, 10, 2, 8, 0, 0, 0, 0, 0), api.MatchField}, {framed(128, 0, 10, 2, 8, 0, 128, 0, 20, 2, 0, 6), api.MatchLen},
		// What may not stand there.
		{framed(128, 0, 20, 1, 6), api.MatchNeed}, {framed(128, 0, 10, 2, 8, 0, 128, 0, 10, 2, 8, 0), api.MatchTwice}, {framed(128, 0, 10, 2, 8, 6, 128, 0, 20, 1, 6), api.MatchNeed},
		{framed(128, 0, 20, 1, 6, 128, 0, 10, 2, 8, 0), api.MatchNeed}, {framed(128, 0, 10, 2, 8, 0, 128, 0, 20, 1, 6, 128, 0, 10, 2, 8, 6), api.MatchTwice},
		// A value that may not be, though it may not stand there either.
		{framed(128, 0, 12, 2, 0, 1, 128, 0, 12, 2, 255, 255), api.MatchValue}, {framed(128, 0, 12, 2, 0, 1, 128, 0, 13, 4, 0, 1, 0, 0), api.MatchMask}, {framed(128, 0, 12, 2, 0, 1, 128, 0, 12, 3, 0, 0, 0), api.MatchLen},
		{framed(128, 0, 21, 2, 6, 6), api.MatchMask}, {framed(128, 0, 20, 1), api.MatchLen}, {framed(128, 0, 14, 1, 8), api.MatchValue},
		// One that may not stand there, ahead of one that may not be, and the other way round.
		{framed(128, 0, 20, 1, 6, 0, 0, 0, 0), api.MatchNeed}, {framed(128, 0, 20, 1, 6, 128), api.MatchNeed}, {framed(128, 0, 10, 2, 8, 0, 128, 0, 10, 2, 8, 0, 128, 0, 12, 2, 255, 255), api.MatchTwice},
		{framed(0, 0, 0, 0, 128, 0, 20, 1, 6), api.MatchField}, {framed(128, 0, 10, 2, 8, 0, 128, 0, 12, 2, 255, 255, 128, 0, 10, 2, 8, 0), api.MatchValue},
		// What comes to be right behind it is of no matter.
		{framed(128, 0, 20, 1, 6, 128, 0, 10, 2, 8, 0, 128, 0, 10, 2, 8, 0), api.MatchNeed}, {framed(128, 0, 10, 2, 8, 0, 128, 0, 10, 2, 8, 0, 128, 0, 28, 2, 0, 80), api.MatchTwice},
		// A zero that is not 0, alone, and behind what is wrong with the values.
		{[]byte{0, 1, 0, 4, 0, 0, 0, 1}, api.MatchLen}, {[]byte{0, 1, 0, 4, 1, 0, 0, 0}, api.MatchLen}, {[]byte{0, 1, 0, 4, 128, 0, 10, 2, 8, 0}, api.MatchLen}, {[]byte{0, 1, 0, 9, 128, 0, 20, 1, 6, 0, 0, 0, 0, 0, 0, 1}, api.MatchNeed},
		{[]byte{0, 1, 0, 9, 128, 0, 14, 1, 8, 1, 1, 1, 1, 1, 1, 1}, api.MatchValue}, {[]byte{0, 1, 0, 9, 0, 0, 14, 1, 8, 0, 0, 0, 0, 0, 0, 1}, api.MatchField},
	} {
		notGot(t, x.b, x.want)
		held(t, x.b)
	}
}

// MA1: zeros to each multiple of 8 are written; each of them must be there, and 0.
func TestZeros(t *testing.T) {
	for size := range 101 {
		l := []api.Oxm{extra(9, 9, slices.Repeat([]byte{255}, size)...)}
		right(t, l)
		b := plain(l)
		n := 12 + size
		for i := range b {
			notGot(t, b[:i], api.MatchLen)
		}
		for i := n; i < len(b); i++ {
			for _, x := range []byte{1, 128, 255} {
				changed := slices.Clone(b)
				changed[i] = x
				notGot(t, changed, api.MatchLen)
			}
		}
		for _, x := range []byte{1, 255} {
			got(t, append(slices.Clone(b), x), l)
		}
	}
}

// samples are matches, of values with a mask and without, of both classes.
func samples() [][]api.Oxm {
	return [][]api.Oxm{nil, tcp(), {extra(0, 0)}, {masked(extra(127, math.MaxUint32, 1, 0), 3, 9), basic(5, 134, 221), extra(127, 1)},
		{basic(0, 0, 0, 0, 1), basic(1, 0, 0, 0, 2), masked(basic(2, 1, 0, 0, 0, 0, 0, 0, 0), 3, 0, 0, 0, 0, 0, 0, 0), masked(basic(3, 1, 0, 0, 0, 0, 0), 1, 0, 0, 0, 0, 0), basic(4, 1, 2, 3, 4, 5, 6)},
		{masked(basic(6, 16, 0), 16, 0), basic(7, 7), basic(5, 8, 0), masked(basic(11, 10, 0, 0, 0), 255, 0, 0, 0), basic(12, 10, 0, 0, 1), basic(10, 1), basic(19, 8), basic(20, 0)},
		{basic(5, 134, 221), basic(10, 58), basic(29, 135), basic(31, 1, 2, 3, 4, 5, 6, 7, 8, 9, 10, 11, 12, 13, 14, 15, 16), basic(32, 1, 2, 3, 4, 5, 6), masked(basic(39, 0, 1), 0, 3), masked(basic(28, 0, 1, 0, 0), 0, 1, 0, 0)},
		{basic(5, 136, 71), basic(34, 0, 15, 255, 255), basic(35, 7), basic(36, 1), basic(38, 1, 2, 3, 4, 5, 6, 7, 8)}}
}

// MA1, MA3: each change of one byte of a match's bytes, and each cut, is what the chapter's clauses tell.
func TestDecodeChanged(t *testing.T) {
	for _, l := range samples() {
		right(t, l)
		b := plain(l)
		for i := range b {
			notGot(t, b[:i], api.MatchLen)
			for x := range 256 {
				changed := slices.Clone(b)
				changed[i] = byte(x)
				held(t, changed)
			}
		}
	}
}

// MA1, MA3: of each cut of a match's values, with the head and the zeros of that, what the chapter's clauses tell.
func TestDecodeCutValues(t *testing.T) {
	for _, l := range samples() {
		values, ends := body(l), map[int]int{0: 0}
		for i := range l {
			ends[len(body(l[:i+1]))] = i + 1
		}
		for n := range len(values) + 1 {
			b := framed(values[:n]...)
			if i, ok := ends[n]; ok {
				got(t, b, l[:i])
			} else {
				notGot(t, b, api.MatchLen)
			}
		}
	}
}

// MA3: what was encoded is decoded, whatever is behind, one match behind the other.
func TestOneByOne(t *testing.T) {
	b := buffer.New(100000)
	for _, l := range samples() {
		Put(b, l)
	}
	all, e := b.Done()
	if e != api.OK {
		t.Fatalf("Done: %d", e)
	}
	c := cursor.New(all, api.ErrShort, api.ErrState)
	for _, want := range samples() {
		l, n, e := Decode(all)
		if e != api.OK || !equal(l, want) {
			t.Fatalf("Decode: %v, %d, %d; not %v", l, n, e, want)
		}
		all = all[n:]
		if l := Take(c); !equal(l, want) {
			t.Fatalf("Take: %v, not %v", l, want)
		}
	}
	if len(all) != 0 || c.Left() != 0 || c.Err() != api.OK {
		t.Errorf("%d bytes are left, %d of the cursor, %d", len(all), c.Left(), c.Err())
	}
}

// MA2: all of it is written, or nothing, and then the fault is the first one.
func TestPut(t *testing.T) {
	want := plain(tcp())
	for room := range 60 {
		b := buffer.New(room)
		b.Num(1, 7)
		Put(b, tcp())
		Put(b, nil)
		all, e := b.Done()
		switch {
		case room < 33 && (e != api.ErrLong || len(all) != 0):
			t.Errorf("room for %d: %v, %d", room, all, e)
		case room >= 33 && (e != api.OK || !slices.Equal(all, slices.Concat([]byte{7}, want, []byte{0, 1, 0, 4, 0, 0, 0, 0}))):
			t.Errorf("room for %d: %v, %d", room, all, e)
		}
	}
	// What is no match is ErrArg, even where there is no room, and a fault stays.
	for _, first := range []api.Errno{api.OK, api.BadLen, api.ErrLong} {
		b := buffer.New(0)
		b.Fail(first)
		Put(b, tcp()[1:])
		Put(b, tcp())
		if first == api.OK {
			first = api.ErrArg
		}
		if all, e := b.Done(); e != first || len(all) != 0 || b.Len() != 0 {
			t.Errorf("%v, %d, not %d; %d bytes", all, e, first, b.Len())
		}
	}
	// What is held stays so, and what is written behind goes on.
	b := buffer.New(100)
	at := b.Hold(2)
	Put(b, tcp())
	b.Fill(at, uint64(b.Len()))
	if all, e := b.Done(); e != api.OK || !slices.Equal(all, append([]byte{0, 26}, want...)) {
		t.Errorf("behind what is held: %v, %d", all, e)
	}
}

// MA2: what is no buffer, or none that a call made, is not written to.
func TestPutNowhere(t *testing.T) {
	for _, l := range [][]api.Oxm{nil, tcp(), tcp()[1:], {{}}} {
		Put(nil, l)
		b := &buffer.Buffer{}
		Put(b, l)
		if all, e := b.Done(); e != api.ErrArg || len(all) != 0 || b.Len() != 0 {
			t.Errorf("%v, %d", all, e)
		}
	}
}

// MA2: of what is no cursor, none that a call made, or has a fault, there is nothing, and the fault stays.
func TestTakeNothing(t *testing.T) {
	if l := Take(nil); len(l) != 0 {
		t.Errorf("Take of nil: %v", l)
	}
	c := &cursor.Cursor{}
	if l := Take(c); len(l) != 0 || c.Err() != api.ErrArg {
		t.Errorf("Take of one that no call made: %v, %d", l, c.Err())
	}
	for _, first := range []api.Errno{api.MatchLen, api.BadLen, api.ErrArg} {
		c := behind(plain(tcp()))
		c.Fail(first)
		if l := Take(c); len(l) != 0 || c.Err() != first || c.At() != 3 || c.Left() != 24 {
			t.Errorf("Take behind the fault %d: %v, %d, at %d", first, l, c.Err(), c.At())
		}
	}
}

// MA2: what is read is what is left of the cursor alone; its fault is Decode's, whatever the cursor's own are.
func TestTake(t *testing.T) {
	all := slices.Concat(plain(tcp()), plain(nil))
	for _, own := range []api.Errno{api.OK, api.BadLen, api.MatchLen} {
		c := cursor.New(all, own, own)
		s := c.Sub(24, own, own)
		if l := Take(s); !equal(l, tcp()) || s.Left() != 0 || s.At() != 24 || s.Err() != api.OK {
			t.Errorf("Take: %v, %d left, %d", l, s.Left(), s.Err())
		}
		if l := Take(c); len(l) != 0 || c.Left() != 0 || c.At() != 32 || c.Err() != api.OK {
			t.Errorf("Take: %v, %d left, %d", l, c.Left(), c.Err())
		}
		if l := Take(c); len(l) != 0 || c.Err() != api.MatchLen {
			t.Errorf("Take of nothing: %v, %d", l, c.Err())
		}
		// The bytes of the match go on in what the cursor has, but not in what is left of its part.
		c = cursor.New(all, own, own)
		if s := c.Sub(23, own, own); len(Take(s)) != 0 || s.Err() != api.MatchLen || s.At() != 0 || c.Err() != api.OK {
			t.Errorf("Take of too few: %d, at %d", s.Err(), s.At())
		}
	}
}

// others are lists of which each differs from the first one in one thing.
func others() [][]api.Oxm {
	one := []api.Oxm{masked(extra(5, 7, 1, 2), 3, 4), basic(5, 8, 0), {}}
	l := [][]api.Oxm{one, nil, one[:1], one[:2], one[1:], append(clone(one), api.Oxm{}), {one[1], one[0], one[2]}, {one[0], one[2], one[1]}, {one[0], one[0], one[2]}}
	for i := range one {
		for _, change := range []func(o *api.Oxm){
			func(o *api.Oxm) { o.Class = 1 },
			func(o *api.Oxm) { o.Class += 1 << 32 },
			func(o *api.Oxm) { o.Field = 6 },
			func(o *api.Oxm) { o.Has = !o.Has },
			func(o *api.Oxm) { o.Exp++ },
			func(o *api.Oxm) { o.Exp += 1 << 32 },
			func(o *api.Oxm) { o.Value = append(slices.Clone(o.Value), 0) },
			func(o *api.Oxm) { o.Value = slices.Concat([]byte{9}, o.Value) },
			func(o *api.Oxm) { o.Mask = append(slices.Clone(o.Mask), 0) },
		} {
			x := clone(one)
			change(&x[i])
			l = append(l, x)
		}
	}
	return l
}

// MA2: two are the same just if they have as many values, each the same in the same place, whether they are matches or not.
func TestSame(t *testing.T) {
	for i, a := range others() {
		for j, b := range others() {
			if Same(a, b) != (i == j) {
				t.Errorf("Same of %v, %v: %v", a, b, Same(a, b))
			}
		}
	}
	for i, a := range samples() {
		for j, b := range samples() {
			if Same(a, b) != (i == j) {
				t.Errorf("Same of %v, %v: %v", a, b, Same(a, b))
			}
		}
	}
	// Nothing may be nil or empty, and what lies behind is of no matter.
	if !Same(nil, []api.Oxm{}) || !Same([]api.Oxm{}, nil) || !Same(tcp()[:0], nil) || !Same([]api.Oxm{{}}, []api.Oxm{{Value: []byte{}, Mask: []byte{}}}) {
		t.Error("nil and empty are not the same")
	}
	if !Same(tcp()[:1], []api.Oxm{basic(5, 8, 0), {}}[:1]) || !Same([]api.Oxm{basic(5, []byte{8, 0, 1}[:2]...)}, tcp()[:1]) {
		t.Error("what lies behind is looked at")
	}
}

// MA2: a copy is the same, whether it is a match or not, in memory of its own.
func TestCopy(t *testing.T) {
	for _, l := range slices.Concat(others(), samples(), [][]api.Oxm{{}, {{Value: []byte{}}}, {{Class: -1, Field: math.MinInt, Exp: math.MaxUint64, Value: make([]byte, 70000)}}, long(70000, 100)}) {
		l = append(make([]api.Oxm, 0, len(l)+2), l...)
		was := clone(l)
		c := Copy(l)
		if !equal(c, was) || !equal(l, was) {
			t.Errorf("Copy of %v: %v", was, c)
		}
		spoil(c)
		_ = append(c, api.Oxm{}, api.Oxm{})
		if !equal(l, was) || !equal(l[:cap(l)][len(l):], []api.Oxm{{}, {}}) {
			t.Errorf("who changed a copy of %v changed it to %v", was, l[:cap(l)])
		}
		c = Copy(l)
		spoil(l)
		if !equal(c, was) {
			t.Errorf("who changed %v changed its copy to %v", was, c)
		}
	}
}

// apart asks that no two lists of an answer share memory: who changes one changes no other.
func apart(t *testing.T, l []api.Oxm) {
	t.Helper()
	want := clone(l)
	for i := range l {
		for j, b := range [][]byte{l[i].Value[:cap(l[i].Value)], l[i].Mask[:cap(l[i].Mask)]} {
			flip(b)
			for k := range l {
				if (k != i || j != 0) && !slices.Equal(l[k].Value, want[k].Value) || (k != i || j != 1) && !slices.Equal(l[k].Mask, want[k].Mask) {
					t.Errorf("who changed one list of %d changed %d: %v", i, k, l)
				}
			}
			flip(b)
		}
	}
}

// MA1, MA2: what is answered is new memory, and no two lists of it share any.
func TestNewMemory(t *testing.T) {
	for _, want := range samples() {
		b := append(plain(want), 7, 7, 7, 7)
		c := cursor.New(b, api.ErrShort, api.ErrState)
		first, _, _ := Decode(b)
		second, _, _ := Decode(b)
		third := Take(c)
		clear(b)
		for _, l := range [][]api.Oxm{first, second, third, Copy(first)} {
			if !equal(l, want) {
				t.Errorf("who changed the bytes changed %v to %v", want, l)
			}
			apart(t, l)
		}
		x, _ := Encode(second)
		y, _ := Encode(second)
		spoil(first)
		flip(x[:cap(x)])
		if !equal(second, want) || !equal(third, want) || !slices.Equal(y, plain(want)) {
			t.Errorf("who changed one answer changed another to %v, %v, %v", second, third, y)
		}
	}
	shared := []byte{8, 0, 9, 9}
	l := []api.Oxm{{Class: api.Extra, Has: true, Value: shared[:2], Mask: shared[:2]}, {Class: api.Extra, Field: 1, Value: shared[:3]}}
	apart(t, Copy(l))
	if !slices.Equal(shared, []byte{8, 0, 9, 9}) {
		t.Errorf("Copy changed what is handed in to %v", shared)
	}
}

// MA1, MA2: what lies behind a list's length, or behind that of bytes, is neither read nor written.
func TestBehindInMemory(t *testing.T) {
	l := append(tcp(), api.Oxm{}, basic(5, 8, 0))
	right(t, l[:3])
	right(t, l[:1])
	wrong(t, l)
	if !equal(l, append(tcp(), api.Oxm{}, basic(5, 8, 0))) {
		t.Errorf("%v", l)
	}
	value := []byte{10, 0, 0, 0, 77, 77}
	right(t, []api.Oxm{basic(0, value[:4]...)})
	b := append(plain(tcp()), 77, 77)
	for n := range 24 {
		notGot(t, b[:n], api.MatchLen)
	}
	got(t, b[:24], tcp())
	if !slices.Equal(value[4:], []byte{77, 77}) || !bytes.HasSuffix(b, []byte{77, 77}) {
		t.Errorf("%v, %v", value, b)
	}
}

// numbers are those that are asked for of some field, and some others.
var numbers = [...]uint64{0, 1, 6, 17, 58, 132, 135, 136, 255, 2048, 2054, 34525, 34887, 34888, 35047, math.MaxUint16}

// told is a value, told by four numbers: most are such as ask, or are asked for.
func told(kind, n, number, more byte) api.Oxm {
	o := full(int(n)%44, numbers[number%16])
	if n >= 180 {
		o = full([]int{0, 5, 6, 10, 29}[n%5], numbers[number%16])
	}
	switch kind % 16 {
	case 1, 2:
		o = extra(int(n)%130, uint64(more%4), o.Value...)
	case 3:
		o = masked(o, slices.Repeat([]byte{more}, len(o.Value))...)
	case 4:
		o = masked(basic(o.Field, make([]byte, len(o.Value))...), slices.Repeat([]byte{more}, len(o.Value))...)
	case 5:
		o.Class = int(more) - 128
	case 6:
		o.Exp = uint64(more % 2)
	case 7:
		o.Value = append(o.Value, more)
	case 8:
		o.Mask = make([]byte, more%3)
	}
	return o
}

// MA1, MA2, MA3: lists by the thousand are what the chapter's words tell; enough of them are matches.
func TestManyLists(t *testing.T) {
	r := rand.New(rand.NewSource(10))
	fine := 0
	for range 20000 {
		var l []api.Oxm
		for range r.Intn(9) {
			o := told(byte(r.Intn(256)), byte(r.Intn(256)), byte(r.Intn(256)), byte(r.Intn(256)))
			// Most of what makes no match is left out, so that matches may be long.
			if isMatch(append(clone(l), o)) || r.Intn(12) == 0 {
				l = append(l, o)
			}
		}
		asked(t, l, isMatch(l))
		held(t, plain(l))
		if isMatch(l) && len(l) > 2 {
			fine++
		}
	}
	if fine < 1000 {
		t.Errorf("%d lists alone are matches", fine)
	}
}

// MA1, MA3: whatever the bytes, they are what the chapter's clauses tell, and again those bytes.
func FuzzDecode(f *testing.F) {
	for _, l := range samples() {
		f.Add(plain(l))
		f.Add(body(l))
	}
	f.Add([]byte{})
	f.Add([]byte{0, 1, 0, 4, 0, 0, 0, 1})
	f.Add([]byte{0, 1, 255, 248})
	f.Fuzz(func(t *testing.T, b []byte) {
		held(t, b)
		// Most bytes are no head: the same of the values alone, and of a value behind the others.
		if len(b) < 2000 {
			held(t, framed(b...))
			held(t, framed(slices.Concat(body(tcp()), b)...))
		}
	})
}

// MA1, MA2, MA3: whatever a list has, it is what the chapter's words tell.
func FuzzLists(f *testing.F) {
	f.Add([]byte{})
	f.Add([]byte{0, 5, 9, 0, 0, 10, 2, 0, 0, 14, 1, 0})
	f.Add([]byte{0, 5, 11, 0, 0, 10, 4, 0, 0, 29, 6, 0, 0, 31, 1, 0, 0, 32, 1, 0})
	f.Add([]byte{3, 6, 1, 1, 0, 7, 1, 0, 1, 7, 0, 0, 4, 6, 1, 1, 2, 40, 3, 9, 5, 5, 9, 0})
	f.Fuzz(func(t *testing.T, b []byte) {
		var l []api.Oxm
		for i := 0; i+4 <= min(len(b), 400); i += 4 {
			l = append(l, told(b[i], b[i+1], b[i+2], b[i+3]))
		}
		asked(t, l, isMatch(l))
		held(t, plain(l))
	})
}
