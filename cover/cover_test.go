package cover

import (
	"math"
	"math/rand"
	"slices"
	"testing"

	"gunwale/api"
	"gunwale/field"
	"gunwale/match"
	"gunwale/need"
	"gunwale/oxm"
)

// basic is a value without a mask.
func basic(n int, value ...byte) api.Oxm {
	return api.Oxm{Class: api.Basic, Field: n, Value: value}
}

// masked is the same with a mask.
func masked(o api.Oxm, mask ...byte) api.Oxm {
	o.Has, o.Mask = true, mask
	return o
}

// extra is a value of the class Extra.
func extra(n int, exp uint64, value ...byte) api.Oxm {
	return api.Oxm{Class: api.Extra, Field: n, Exp: exp, Value: value}
}

// ip is an ipv4_src with a mask of so many ones.
func ip(ones int, value ...byte) api.Oxm {
	o := basic(11, value...)
	if ones == 32 {
		return o
	}
	m := ^uint32(0) << (32 - ones)
	return masked(o, byte(m>>24), byte(m>>16), byte(m>>8), byte(m))
}

// equalOne holds two values against one another without oxm.
func equalOne(a, b api.Oxm) bool {
	return a.Class == b.Class && a.Field == b.Field && a.Has == b.Has && a.Exp == b.Exp && slices.Equal(a.Value, b.Value) && slices.Equal(a.Mask, b.Mask)
}

// equal holds two lists against one another.
func equal(a, b []api.Oxm) bool { return slices.EqualFunc(a, b, equalOne) }

// clone is a copy of a list in new memory.
func clone(l []api.Oxm) []api.Oxm {
	c := slices.Clone(l)
	for i, o := range c {
		c[i].Value, c[i].Mask = slices.Clone(o.Value), slices.Clone(o.Mask)
	}
	return c
}

// flip changes all bits.
func flip(b []byte) {
	for i := range b {
		b[i] ^= 255
	}
}

// spoil changes all bytes of a list's values, and what lies behind them and the list in memory.
func spoil(l []api.Oxm) {
	for _, o := range l {
		flip(o.Value[:cap(o.Value)])
		flip(o.Mask[:cap(o.Mask)])
	}
	l = l[:cap(l)]
	for i := range l {
		l[i].Class, l[i].Field, l[i].Has, l[i].Exp = -7, -7, !l[i].Has, 77
	}
}

// bit is a bit of bytes, nought behind them.
func bit(b []byte, place int) bool {
	return place/8 < len(b) && b[place/8]>>(7-place%8)&1 == 1
}

// counts tells whether the mask of a value has a 1 in a place.
func counts(o api.Oxm, place int) bool {
	return !o.Has || bit(o.Mask, place)
}

// anyPlace tells whether something holds in some place of a value.
func anyPlace(o api.Oxm, holds func(place int) bool) bool {
	for place := range 8 * len(o.Value) {
		if holds(place) {
			return true
		}
	}
	return false
}

// takesOne tells whether a value takes another one, as the chapter words it.
func takesOne(v, p api.Oxm) bool {
	return oxm.Alike(v, p) && !p.Has && len(v.Value) == len(p.Value) &&
		!anyPlace(v, func(i int) bool { return counts(v, i) && bit(v.Value, i) != bit(p.Value, i) })
}

// clashing tells whether two clash, as the chapter words it.
func clashing(a, b api.Oxm) bool {
	return oxm.Alike(a, b) && (len(a.Value) != len(b.Value) ||
		anyPlace(a, func(i int) bool { return counts(a, i) && counts(b, i) && bit(a.Value, i) != bit(b.Value, i) }))
}

// withinOne tells whether one of a says what one of b does, as the chapter words it.
func withinOne(a, b api.Oxm) bool {
	return oxm.Alike(a, b) && len(a.Value) == len(b.Value) &&
		!anyPlace(b, func(i int) bool { return counts(b, i) && !(counts(a, i) && bit(a.Value, i) == bit(b.Value, i)) })
}

// hasOne tells whether of each of l another list has one that holds with it.
func hasOne(l, of []api.Oxm, holds func(o, other api.Oxm) bool) bool {
	for _, o := range l {
		if !slices.ContainsFunc(of, func(other api.Oxm) bool { return holds(o, other) }) {
			return false
		}
	}
	return true
}

// takes, within and apart are the calls, told as the chapter words them.
func takes(l, packet []api.Oxm) bool { return hasOne(l, packet, takesOne) }

func within(a, b []api.Oxm) bool {
	return hasOne(b, a, func(y, x api.Oxm) bool { return withinOne(x, y) })
}

func apart(a, b []api.Oxm) bool {
	return slices.ContainsFunc(a, func(x api.Oxm) bool {
		return slices.ContainsFunc(b, func(y api.Oxm) bool { return clashing(x, y) })
	})
}

// widthOf is how many bits of a value count.
func widthOf(o api.Oxm) int {
	if f, ok := field.Of(o.Field); ok && o.Class == api.Basic {
		return f.Bits
	}
	return 8 * len(o.Value)
}

// metOne is the one value of two that are Alike and do not clash, told bit by bit.
func metOne(a, b api.Oxm) api.Oxm {
	o := api.Oxm{Class: a.Class, Field: a.Field, Exp: a.Exp, Value: make([]byte, len(a.Value))}
	mask, ones := make([]byte, len(a.Value)), 0
	anyPlace(a, func(i int) bool {
		if bit(a.Value, i) || bit(b.Value, i) {
			o.Value[i/8] |= 128 >> (i % 8)
		}
		if counts(a, i) || counts(b, i) {
			mask[i/8] |= 128 >> (i % 8)
			// The lowest bits are the field's.
			if 8*len(a.Value)-i <= widthOf(a) {
				ones++
			}
		}
		return false
	})
	if a.Has && b.Has && ones < widthOf(a) {
		return masked(o, mask...)
	}
	return o
}

// met is Meet, told as the chapter words it.
func met(a, b []api.Oxm) ([]api.Oxm, bool) {
	if !match.Right(a) || !match.Right(b) || apart(a, b) {
		return nil, false
	}
	var l []api.Oxm
	for _, x := range a {
		for _, y := range b {
			if oxm.Alike(x, y) {
				x = metOne(x, y)
			}
		}
		l = append(l, x)
	}
	for _, y := range b {
		if !slices.ContainsFunc(a, func(x api.Oxm) bool { return oxm.Alike(x, y) }) {
			l = append(l, y)
		}
	}
	l = need.Sort(l)
	if !match.Right(l) {
		return nil, false
	}
	return l, true
}

// asked asks one of the calls that answer a bool, and that it changes nothing.
func asked(t *testing.T, name string, call func(a, b []api.Oxm) bool, a, b []api.Oxm, want bool) {
	t.Helper()
	wasA, wasB := clone(a), clone(b)
	if ok := call(a, b); ok != want {
		t.Errorf("%s of %v, %v: %v", name, a, b, ok)
	}
	if !equal(a, wasA) || !equal(b, wasB) {
		t.Errorf("%s changed %v, %v to %v, %v", name, wasA, wasB, a, b)
	}
}

// meets asks for what two meet in, either way round, and that nothing is changed.
func meets(t *testing.T, a, b, want []api.Oxm) {
	t.Helper()
	wasA, wasB := clone(a), clone(b)
	for _, x := range [][2][]api.Oxm{{a, b}, {b, a}} {
		l, ok := Meet(x[0], x[1])
		if !ok || !equal(l, want) {
			t.Errorf("Meet of %v, %v: %v, %v; not %v", x[0], x[1], l, ok, want)
		}
		if ok && !match.Right(l) {
			t.Errorf("Meet of %v, %v: %v is no match", x[0], x[1], l)
		}
	}
	if !equal(a, wasA) || !equal(b, wasB) {
		t.Errorf("Meet changed %v, %v to %v, %v", wasA, wasB, a, b)
	}
}

// meetsNot asks that two do not meet, either way round, and that nothing is changed.
func meetsNot(t *testing.T, a, b []api.Oxm) {
	t.Helper()
	wasA, wasB := clone(a), clone(b)
	for _, x := range [][2][]api.Oxm{{a, b}, {b, a}} {
		if l, ok := Meet(x[0], x[1]); ok || len(l) != 0 {
			t.Errorf("Meet of %v, %v: %v, %v", x[0], x[1], l, ok)
		}
	}
	if !equal(a, wasA) || !equal(b, wasB) {
		t.Errorf("Meet changed %v, %v to %v, %v", wasA, wasB, a, b)
	}
}

// held asks each call for what the chapter's words tell of two lists.
func held(t *testing.T, a, b []api.Oxm) {
	t.Helper()
	for _, x := range [][2][]api.Oxm{{a, b}, {b, a}} {
		asked(t, "Takes", Takes, x[0], x[1], takes(x[0], x[1]))
		asked(t, "Within", Within, x[0], x[1], within(x[0], x[1]))
		asked(t, "Apart", Apart, x[0], x[1], apart(x[0], x[1]))
	}
	if l, ok := met(a, b); ok {
		meets(t, a, b, l)
	} else {
		meetsNot(t, a, b)
	}
}

// The chapter's example, which is one of the whole, too.
func TestExample(t *testing.T) {
	eth := basic(5, 8, 0)
	a, b := []api.Oxm{eth, ip(8, 10, 0, 0, 0)}, []api.Oxm{eth, ip(16, 10, 1, 0, 0)}
	meets(t, a, b, b)
	asked(t, "Within", Within, b, a, true)
	asked(t, "Within", Within, a, b, false)
	asked(t, "Apart", Apart, a, b, false)
	held(t, a, b)
}

// CO1: values, and packets that they take, or do not.
func TestTakes(t *testing.T) {
	packet := []api.Oxm{basic(0, 0, 0, 0, 7), basic(5, 8, 0), basic(10, 6), basic(11, 10, 1, 2, 3), basic(14, 0, 80), extra(3, 9, 1, 2, 3)}
	own := basic(5, 8, 0)
	own.Exp = 1
	for _, x := range []struct {
		l    []api.Oxm
		want bool
	}{
		{nil, true}, {[]api.Oxm{}, true}, {packet, true}, {packet[:1], true}, {packet[5:], true},
		{[]api.Oxm{ip(0, 0, 0, 0, 0)}, true}, {[]api.Oxm{ip(8, 10, 0, 0, 0)}, true}, {[]api.Oxm{ip(31, 10, 1, 2, 2)}, true}, {[]api.Oxm{ip(32, 10, 1, 2, 3)}, true},
		{[]api.Oxm{ip(32, 10, 1, 2, 2)}, false}, {[]api.Oxm{ip(8, 11, 0, 0, 0)}, false}, {[]api.Oxm{ip(31, 10, 1, 2, 0)}, false},
		// What is not under the mask is not held against anything.
		{[]api.Oxm{ip(8, 10, 255, 255, 255)}, true}, {[]api.Oxm{ip(0, 1, 2, 3, 4)}, true}, {[]api.Oxm{masked(basic(5, 8, 0), 0, 255)}, true}, {[]api.Oxm{masked(basic(5, 9, 0), 1, 255)}, false},
		// All of them must be taken, wherever the one stands that is not.
		{[]api.Oxm{packet[0], basic(5, 8, 6)}, false}, {[]api.Oxm{basic(5, 8, 6), packet[0]}, false}, {[]api.Oxm{packet[0], basic(5, 8, 6), packet[1]}, false},
		{[]api.Oxm{packet[4], packet[0]}, true}, {[]api.Oxm{packet[0], packet[0], packet[0]}, true}, {[]api.Oxm{ip(8, 10, 0, 0, 0), ip(16, 10, 1, 0, 0)}, true}, {[]api.Oxm{ip(8, 10, 0, 0, 0), ip(16, 10, 2, 0, 0)}, false},
		// What the packet does not have, and what is not Alike.
		{[]api.Oxm{basic(12, 10, 1, 2, 3)}, false}, {[]api.Oxm{masked(basic(12, 0, 0, 0, 0), 0, 0, 0, 0)}, false}, {[]api.Oxm{extra(5, 0, 8, 0)}, false}, {[]api.Oxm{own}, false}, {[]api.Oxm{{Class: -api.Basic, Field: 5, Value: []byte{8, 0}}}, false},
		{[]api.Oxm{extra(3, 8, 1, 2, 3)}, false}, {[]api.Oxm{extra(4, 9, 1, 2, 3)}, false}, {[]api.Oxm{{}}, false}, {[]api.Oxm{{Class: 1<<32 + api.Basic, Field: 5, Value: []byte{8, 0}}}, false}, {[]api.Oxm{{Class: api.Basic, Field: 1<<32 + 5, Value: []byte{8, 0}}}, false},
		// Not as many bytes.
		{[]api.Oxm{extra(3, 9, 1, 2)}, false}, {[]api.Oxm{extra(3, 9, 1, 2, 3, 0)}, false}, {[]api.Oxm{masked(extra(3, 9, 1, 2), 0, 0)}, false}, {[]api.Oxm{masked(extra(3, 9, 1, 2, 3, 0), 0, 0, 0, 0)}, false}, {[]api.Oxm{extra(3, 9)}, false},
		// A mask that is shorter than the value, or longer, or not there at all; and one without Has.
		{[]api.Oxm{masked(extra(3, 9, 1, 9, 9), 255)}, true}, {[]api.Oxm{masked(extra(3, 9, 2, 2, 3), 255)}, false}, {[]api.Oxm{masked(extra(3, 9, 9, 9, 9))}, true}, {[]api.Oxm{masked(extra(3, 9, 9, 2, 9), 0, 255)}, true},
		{[]api.Oxm{masked(extra(3, 9, 9, 9, 3), 0, 0, 255, 255, 255)}, true}, {[]api.Oxm{masked(extra(3, 9, 9, 9, 4), 0, 0, 255, 255, 255)}, false}, {[]api.Oxm{{Class: api.Extra, Field: 3, Exp: 9, Value: []byte{1, 2, 4}, Mask: []byte{255, 255, 0}}}, false}, {[]api.Oxm{{Class: api.Extra, Field: 3, Exp: 9, Value: []byte{1, 2, 3}, Mask: []byte{0}}}, true},
	} {
		asked(t, "Takes", Takes, x.l, packet, x.want)
		held(t, x.l, packet)
	}
}

// CO1: which packets a value takes, whatever else is in them.
func TestTakesOfPackets(t *testing.T) {
	l := []api.Oxm{ip(8, 10, 0, 0, 0)}
	lone := basic(11, 10, 0, 0, 1)
	lone.Mask = []byte{1, 2, 3, 4, 5}
	for _, x := range []struct {
		packet []api.Oxm
		want   bool
	}{
		{nil, false}, {[]api.Oxm{}, false}, {[]api.Oxm{{}}, false}, {[]api.Oxm{ip(32, 10, 9, 9, 9)}, true}, {[]api.Oxm{ip(32, 11, 9, 9, 9)}, false}, {[]api.Oxm{basic(11, 10, 9, 9)}, false}, {[]api.Oxm{basic(11, 10, 9, 9, 9, 9)}, false},
		// Those with a mask are of no matter, whatever it is; a mask is none without Has.
		{[]api.Oxm{ip(8, 10, 0, 0, 0)}, false}, {[]api.Oxm{masked(basic(11, 10, 0, 0, 1), 255, 255, 255, 255)}, false}, {[]api.Oxm{masked(basic(11, 10, 0, 0, 1))}, false}, {[]api.Oxm{lone}, true},
		{[]api.Oxm{masked(basic(11, 10, 0, 0, 1), 255, 255, 255, 255), ip(32, 11, 9, 9, 9)}, false}, {[]api.Oxm{masked(basic(11, 11, 0, 0, 1), 255, 255, 255, 255), ip(32, 10, 9, 9, 9)}, true},
		// Of several that are Alike each one counts.
		{[]api.Oxm{ip(32, 11, 0, 0, 0), ip(32, 10, 0, 0, 1)}, true}, {[]api.Oxm{ip(32, 10, 0, 0, 1), ip(32, 11, 0, 0, 0)}, true}, {[]api.Oxm{ip(32, 11, 0, 0, 0), ip(32, 12, 0, 0, 1), ip(32, 13, 0, 0, 1)}, false},
		{[]api.Oxm{basic(11), basic(11, 10), ip(32, 10, 0, 0, 0), basic(11, 10, 0, 0, 0, 0)}, true}, {[]api.Oxm{basic(12, 10, 0, 0, 1), extra(11, 0, 10, 0, 0, 1)}, false},
	} {
		asked(t, "Takes", Takes, l, x.packet, x.want)
		held(t, l, x.packet)
	}
	// One value of the packet for each of several that are Alike.
	twins := []api.Oxm{ip(8, 10, 0, 0, 0), ip(8, 11, 0, 0, 0)}
	asked(t, "Takes", Takes, twins, []api.Oxm{ip(32, 11, 0, 0, 1), ip(32, 10, 0, 0, 1)}, true)
	asked(t, "Takes", Takes, twins, []api.Oxm{ip(32, 11, 0, 0, 1)}, false)
	// Values of no bytes.
	asked(t, "Takes", Takes, []api.Oxm{extra(1, 1)}, []api.Oxm{extra(1, 1)}, true)
	asked(t, "Takes", Takes, []api.Oxm{masked(extra(1, 1), 7)}, []api.Oxm{extra(1, 1)}, true)
	asked(t, "Takes", Takes, []api.Oxm{{}}, []api.Oxm{{}}, true)
}

// CO1, CO3: each bit of a value under each bit of a mask.
func TestEachBit(t *testing.T) {
	for mask := range 256 {
		for place := range 8 {
			v, p := masked(extra(1, 1, 90, 90), 0, byte(mask)), extra(1, 1, 7, 90^1<<place)
			on := mask>>place&1 == 1
			asked(t, "Takes", Takes, []api.Oxm{v}, []api.Oxm{p}, !on)
			asked(t, "Apart", Apart, []api.Oxm{v}, []api.Oxm{p}, on)
			asked(t, "Apart", Apart, []api.Oxm{p}, []api.Oxm{v}, on)
			asked(t, "Within", Within, []api.Oxm{p}, []api.Oxm{v}, !on)
			asked(t, "Within", Within, []api.Oxm{masked(p, 0, 1<<place)}, []api.Oxm{v}, mask == 0)
			asked(t, "Within", Within, []api.Oxm{masked(v, 0, 1<<place)}, []api.Oxm{v}, mask&^(1<<place) == 0)
			asked(t, "Within", Within, []api.Oxm{v}, []api.Oxm{masked(v, 0, 1<<place)}, on)
		}
	}
}

// CO2: matches, and what they meet in.
func TestMeet(t *testing.T) {
	eth, tcp, port := basic(5, 8, 0), basic(10, 6), basic(14, 0, 80)
	for _, x := range []struct{ a, b, want []api.Oxm }{
		{nil, nil, nil}, {nil, []api.Oxm{}, []api.Oxm{}}, {nil, []api.Oxm{eth}, []api.Oxm{eth}}, {[]api.Oxm{eth, tcp, port}, nil, []api.Oxm{eth, tcp, port}}, {[]api.Oxm{eth}, []api.Oxm{eth}, []api.Oxm{eth}},
		// In need's order, in which of them they stand, whatever order they had.
		{[]api.Oxm{eth, ip(32, 1, 2, 3, 4), tcp, basic(3, 1, 2, 3, 4, 5, 6)}, nil, []api.Oxm{basic(3, 1, 2, 3, 4, 5, 6), eth, tcp, ip(32, 1, 2, 3, 4)}}, {[]api.Oxm{eth, tcp, port}, []api.Oxm{basic(0, 0, 0, 0, 7), eth, ip(8, 10, 0, 0, 0)}, []api.Oxm{basic(0, 0, 0, 0, 7), eth, tcp, ip(8, 10, 0, 0, 0), port}},
		{[]api.Oxm{extra(2, 1), extra(1, 2), eth}, []api.Oxm{extra(1, 1), extra(0, 9), basic(3, 1, 2, 3, 4, 5, 6)}, []api.Oxm{basic(3, 1, 2, 3, 4, 5, 6), eth, extra(0, 9), extra(1, 1), extra(1, 2), extra(2, 1)}},
		// Masks, and values under them.
		{[]api.Oxm{masked(basic(3, 1, 0, 0, 0, 0, 0), 255, 0, 0, 0, 0, 0)}, []api.Oxm{masked(basic(3, 0, 0, 0, 0, 0, 9), 0, 0, 0, 0, 0, 255)}, []api.Oxm{masked(basic(3, 1, 0, 0, 0, 0, 9), 255, 0, 0, 0, 0, 255)}},
		{[]api.Oxm{masked(basic(3, 0, 4, 0, 0, 0, 0), 0, 6, 0, 0, 0, 0)}, []api.Oxm{masked(basic(3, 0, 4, 0, 0, 0, 0), 0, 12, 0, 0, 0, 0)}, []api.Oxm{masked(basic(3, 0, 4, 0, 0, 0, 0), 0, 14, 0, 0, 0, 0)}},
		{[]api.Oxm{masked(extra(1, 1, 1, 0), 3, 0)}, []api.Oxm{masked(extra(1, 1, 1, 128), 5, 128)}, []api.Oxm{masked(extra(1, 1, 1, 128), 7, 128)}}, {[]api.Oxm{masked(extra(1, 1, 0), 1)}, []api.Oxm{masked(extra(1, 1, 0), 1)}, []api.Oxm{masked(extra(1, 1, 0), 1)}},
		// One of them without a mask.
		{[]api.Oxm{eth, ip(8, 10, 0, 0, 0)}, []api.Oxm{eth, ip(32, 10, 1, 2, 3)}, []api.Oxm{eth, ip(32, 10, 1, 2, 3)}}, {[]api.Oxm{masked(basic(6, 16, 0), 16, 0)}, []api.Oxm{basic(6, 16, 7)}, []api.Oxm{basic(6, 16, 7)}}, {[]api.Oxm{masked(extra(1, 1, 1), 3)}, []api.Oxm{extra(1, 1, 5)}, []api.Oxm{extra(1, 1, 5)}},
		// Together they have ones as far as the bits go, and one bit fewer.
		{[]api.Oxm{masked(basic(6, 16, 0), 31, 0)}, []api.Oxm{masked(basic(6, 0, 9), 0, 255)}, []api.Oxm{basic(6, 16, 9)}}, {[]api.Oxm{masked(basic(6, 16, 0), 31, 0)}, []api.Oxm{masked(basic(6, 0, 9), 0, 127)}, []api.Oxm{masked(basic(6, 16, 9), 31, 127)}},
		{[]api.Oxm{masked(extra(1, 1, 1, 0), 255, 0)}, []api.Oxm{masked(extra(1, 1, 1, 2), 1, 255)}, []api.Oxm{extra(1, 1, 1, 2)}}, {[]api.Oxm{masked(extra(1, 1, 1, 0), 127, 0)}, []api.Oxm{masked(extra(1, 1, 0, 2), 0, 255)}, []api.Oxm{masked(extra(1, 1, 1, 2), 127, 255)}},
		// An extra one has as many bits as its bytes, whatever field has its number.
		{[]api.Oxm{masked(extra(6, 0, 16, 0), 31, 0)}, []api.Oxm{masked(extra(6, 0, 0, 9), 0, 255)}, []api.Oxm{masked(extra(6, 0, 16, 9), 31, 255)}},
		// What is asked for is met by what they share.
		{[]api.Oxm{masked(basic(6, 16, 0), 16, 0), basic(7, 5)}, []api.Oxm{masked(basic(6, 0, 3), 0, 3)}, []api.Oxm{masked(basic(6, 16, 3), 16, 3), basic(7, 5)}},
		// Of the same bytes, and not the same name, both stay.
		{[]api.Oxm{extra(1, 1, 1)}, []api.Oxm{extra(1, 2, 1), extra(2, 1, 1)}, []api.Oxm{extra(1, 1, 1), extra(1, 2, 1), extra(2, 1, 1)}},
	} {
		meets(t, x.a, x.b, x.want)
		held(t, x.a, x.b)
		asked(t, "Apart", Apart, x.a, x.b, false)
	}
}

// CO2: of each field that may have a mask, one that is met in without a mask, and with all but one of its bits.
func TestMeetEachField(t *testing.T) {
	for n := range api.Fields {
		f, _ := field.Of(n)
		if !f.Masked {
			continue
		}
		var ahead []api.Oxm
		if f.Need >= 0 {
			ahead = []api.Oxm{basic(f.Need, byte(f.Values[0]>>8), byte(f.Values[0]))}
		}
		for cut := 1; cut < f.Bits; cut++ {
			high, low, less := basic(n, make([]byte, f.Size)...), basic(n, make([]byte, f.Size)...), basic(n, make([]byte, f.Size)...)
			high, low, less = masked(high, make([]byte, f.Size)...), masked(low, make([]byte, f.Size)...), masked(less, make([]byte, f.Size)...)
			for place := range f.Bits {
				to := low
				if place >= cut {
					to = high
				}
				to.Mask[f.Size-1-place/8] |= 1 << (place % 8)
				if place >= cut && place != f.Bits-1 {
					less.Mask[f.Size-1-place/8] |= 1 << (place % 8)
				}
			}
			high.Value[f.Size-1-cut/8] |= 1 << (cut % 8)
			low.Value[f.Size-1] |= 1
			both := basic(n, slices.Clone(high.Value)...)
			both.Value[f.Size-1] |= 1
			meets(t, append(clone(ahead), high), append(clone(ahead), low), append(clone(ahead), both))
			if cut == f.Bits-1 {
				continue
			}
			less.Value = high.Value
			both = masked(both, slices.Clone(less.Mask)...)
			for i, b := range low.Mask {
				both.Mask[i] |= b
			}
			meets(t, append(clone(ahead), less), append(clone(ahead), low), append(clone(ahead), both))
		}
	}
}

// CO2: what clashes meets in nothing, nor does what is no match.
func TestMeetNot(t *testing.T) {
	eth, tcp := basic(5, 8, 0), basic(10, 6)
	for _, x := range []struct{ a, b []api.Oxm }{
		{[]api.Oxm{eth}, []api.Oxm{basic(5, 8, 6)}}, {[]api.Oxm{basic(0, 0, 0, 0, 1), eth, tcp}, []api.Oxm{eth, basic(10, 17)}}, {[]api.Oxm{eth, ip(8, 10, 0, 0, 0)}, []api.Oxm{eth, ip(8, 11, 0, 0, 0)}},
		{[]api.Oxm{eth, ip(8, 10, 0, 0, 0)}, []api.Oxm{eth, ip(32, 11, 0, 0, 0)}}, {[]api.Oxm{extra(1, 1, 1)}, []api.Oxm{extra(1, 1, 1, 0)}}, {[]api.Oxm{extra(1, 1)}, []api.Oxm{extra(1, 1, 0)}}, {[]api.Oxm{masked(extra(1, 1, 0, 0), 1, 0)}, []api.Oxm{masked(extra(1, 1, 0), 2)}},
	} {
		meetsNot(t, x.a, x.b)
		asked(t, "Apart", Apart, x.a, x.b, true)
		held(t, x.a, x.b)
	}
	for _, wrong := range [][]api.Oxm{{{}}, {tcp}, {eth, eth}, {tcp, eth}, {basic(5, 8)}, {eth, ip(0, 0, 0, 0, 0)}, {eth, masked(basic(11, 1, 2, 3, 4), 255, 255, 255, 255)}, {masked(basic(5, 8, 0), 8, 0)}, {masked(basic(3, 1, 0, 0, 0, 0, 0), 2, 0, 0, 0, 0, 0)},
		{masked(basic(3, 1, 0, 0, 0, 0, 0), 1)}, {basic(40, 1)}, {basic(-1)}, {extra(128, 0)}, {extra(0, 1<<32)}, {masked(extra(0, 0))}, {basic(5, 8, 0), {Class: math.MaxInt}}, {{Class: api.Basic, Field: 5, Value: []byte{8, 0}, Mask: []byte{1}}}} {
		for _, right := range [][]api.Oxm{nil, {eth}, {eth, tcp}, wrong} {
			meetsNot(t, wrong, right)
			held(t, wrong, right)
		}
	}
}

// CO2: matches that do not clash, and are too long together.
func TestMeetLongest(t *testing.T) {
	long := func(first, n, size int) []api.Oxm {
		var l []api.Oxm
		for i := first; i < first+n; i++ {
			l = append(l, extra(i%128, uint64(i), make([]byte, size)...))
		}
		return l
	}
	// 603 values of 108 bytes, and one of 60, have 65184 bytes; 340 are left of 65524.
	a := append(long(0, 603, 100), extra(1, 99999, make([]byte, 52)...))
	for size := range 101 {
		b := append(long(1000, 2, 100), long(2000, 1, size)...)
		want := size <= 340-2*108-8
		l, ok := Meet(a, b)
		if ok != want || ok && len(l) != 607 || !ok && len(l) != 0 {
			t.Errorf("%d bytes: %d values, %v", size, len(l), ok)
		}
	}
	for _, size := range []int{100, 99} {
		b := append(long(1000, 3, 100), long(2000, 1, size-92)...)
		held(t, a, b)
		// Those that they share are there once.
		b = append(b[:3:3], a...)
		held(t, a, b[:500])
		meets(t, a, a, need.Sort(a))
	}
	// Twice as many bytes, and so many that two bytes would cut them off.
	half := long(10000, 303, 100)
	meetsNot(t, a, half)
	meetsNot(t, a, append(half, long(20000, 303, 100)...))
	// As many values as a match may have; what they meet in is short enough, since their masks are gone.
	var x, y, want []api.Oxm
	for i := range 5459 {
		x = append(x, masked(extra(i%128, uint64(i), 16, 0), 240, 255))
		y = append(y, masked(extra(i%128, uint64(i), 0, 3), 15, 255))
		want = append(want, extra(i%128, uint64(i), 16, 3))
	}
	meetsNot(t, x, y)
	for i := range y {
		y[i].Value[1] = 0
		want[i].Value[1] = 0
	}
	meets(t, x, y, need.Sort(want))
}

// CO3: lists, and whether one is within the other, and apart from it.
func TestWithinAndApart(t *testing.T) {
	eth := basic(5, 8, 0)
	a, b := ip(8, 10, 0, 0, 0), ip(16, 10, 1, 0, 0)
	lone := basic(11, 10, 1, 2, 3)
	lone.Mask = []byte{255, 0, 0, 0}
	for _, x := range []struct {
		a, b        []api.Oxm
		in, of, off bool
	}{
		{nil, nil, true, true, false}, {nil, []api.Oxm{}, true, true, false}, {[]api.Oxm{eth}, nil, true, false, false}, {[]api.Oxm{eth}, []api.Oxm{eth}, true, true, false}, {[]api.Oxm{{}}, []api.Oxm{{}}, true, true, false}, {[]api.Oxm{{}}, nil, true, false, false},
		{[]api.Oxm{b}, []api.Oxm{a}, true, false, false}, {[]api.Oxm{ip(32, 10, 1, 2, 3)}, []api.Oxm{b}, true, false, false}, {[]api.Oxm{ip(32, 10, 2, 2, 3)}, []api.Oxm{b}, false, false, true}, {[]api.Oxm{ip(16, 11, 1, 0, 0)}, []api.Oxm{a}, false, false, true},
		{[]api.Oxm{eth, b}, []api.Oxm{a}, true, false, false}, {[]api.Oxm{eth, a}, []api.Oxm{b}, false, false, false}, {[]api.Oxm{eth}, []api.Oxm{a}, false, false, false}, {[]api.Oxm{basic(5, 8, 6), b}, []api.Oxm{eth, a}, false, false, true},
		{[]api.Oxm{b, basic(5, 8, 6)}, []api.Oxm{a, eth}, false, false, true}, {[]api.Oxm{b, basic(12, 1, 2, 3, 4)}, []api.Oxm{a, basic(4, 1, 2, 3, 4, 5, 6)}, false, false, false},
		// Masks that go over one another, with the same bits and with others; and masks that do not.
		{[]api.Oxm{masked(extra(1, 1, 4), 6)}, []api.Oxm{masked(extra(1, 1, 4), 12)}, false, false, false}, {[]api.Oxm{masked(extra(1, 1, 4), 6)}, []api.Oxm{masked(extra(1, 1, 0), 12)}, false, false, true}, {[]api.Oxm{masked(extra(1, 1, 1), 1)}, []api.Oxm{masked(extra(1, 1, 0), 2)}, false, false, false},
		{[]api.Oxm{masked(extra(1, 1, 4), 6)}, []api.Oxm{masked(extra(1, 1, 0), 2)}, true, false, false}, {[]api.Oxm{masked(extra(1, 1, 4), 6)}, []api.Oxm{masked(extra(1, 1, 2), 2)}, false, false, true}, {[]api.Oxm{masked(extra(1, 1, 9), 255)}, []api.Oxm{extra(1, 1, 9)}, true, true, false},
		// What is not under the mask is not held against anything.
		{[]api.Oxm{masked(extra(1, 1, 5), 4)}, []api.Oxm{masked(extra(1, 1, 14), 4)}, true, true, false}, {[]api.Oxm{masked(extra(1, 1, 5), 0)}, []api.Oxm{masked(extra(1, 1, 14), 0)}, true, true, false},
		// Masks that are shorter than the value, or longer, or not there at all; and one without Has.
		{[]api.Oxm{masked(basic(11, 10, 1, 2, 3), 255)}, []api.Oxm{a}, true, true, false}, {[]api.Oxm{masked(basic(11, 10, 1, 2, 3), 255)}, []api.Oxm{b}, false, true, false}, {[]api.Oxm{masked(basic(11, 9, 9, 9, 9))}, []api.Oxm{a}, false, true, false},
		{[]api.Oxm{masked(basic(11, 10, 1, 2, 3), 255, 255, 0, 0, 255)}, []api.Oxm{b}, true, true, false}, {[]api.Oxm{lone}, []api.Oxm{ip(32, 10, 1, 2, 3)}, true, true, false}, {[]api.Oxm{lone}, []api.Oxm{ip(32, 10, 1, 2, 4)}, false, false, true},
		// Not as many bytes.
		{[]api.Oxm{extra(1, 1, 1, 2)}, []api.Oxm{extra(1, 1, 1)}, false, false, true}, {[]api.Oxm{masked(extra(1, 1, 1, 2))}, []api.Oxm{masked(extra(1, 1, 1))}, false, false, true}, {[]api.Oxm{masked(extra(1, 1), 255)}, []api.Oxm{extra(1, 1, 0)}, false, false, true}, {[]api.Oxm{extra(1, 1)}, []api.Oxm{masked(extra(1, 1))}, true, true, false},
		// What is not Alike.
		{[]api.Oxm{extra(1, 1, 1)}, []api.Oxm{extra(1, 2, 1)}, false, false, false}, {[]api.Oxm{extra(1, 1, 1)}, []api.Oxm{extra(2, 1, 2)}, false, false, false}, {[]api.Oxm{extra(5, 0, 8, 0)}, []api.Oxm{basic(5, 8, 6)}, false, false, false}, {[]api.Oxm{{Class: 1<<32 + api.Basic, Field: 5}}, []api.Oxm{eth}, false, false, false},
		// Of several that are Alike one is enough.
		{[]api.Oxm{a, b}, []api.Oxm{b}, true, true, false}, {[]api.Oxm{ip(32, 11, 0, 0, 0), ip(32, 10, 0, 0, 0)}, []api.Oxm{a}, true, false, true}, {[]api.Oxm{ip(32, 10, 0, 0, 0), ip(32, 11, 0, 0, 0)}, []api.Oxm{a}, true, false, true}, {[]api.Oxm{ip(32, 10, 1, 0, 0)}, []api.Oxm{b, a}, true, false, false},
		{[]api.Oxm{masked(extra(1, 1, 1), 1), masked(extra(1, 1, 2), 2)}, []api.Oxm{masked(extra(1, 1, 3), 3)}, false, true, false}, {[]api.Oxm{extra(1, 1, 1), extra(1, 1, 1, 2)}, []api.Oxm{extra(1, 1, 1)}, true, false, true},
	} {
		asked(t, "Within", Within, x.a, x.b, x.in)
		asked(t, "Within", Within, x.b, x.a, x.of)
		asked(t, "Apart", Apart, x.a, x.b, x.off)
		asked(t, "Apart", Apart, x.b, x.a, x.off)
		held(t, x.a, x.b)
	}
}

// CO3: what stands in one of two lists alone is not held against itself.
func TestApartFromNothing(t *testing.T) {
	twins := []api.Oxm{ip(32, 10, 0, 0, 1), ip(32, 10, 0, 0, 2)}
	for _, l := range [][]api.Oxm{nil, {}, {{}}, {basic(5, 8, 0)}, {basic(12, 10, 0, 0, 3)}} {
		asked(t, "Apart", Apart, twins, l, false)
		asked(t, "Apart", Apart, l, twins, false)
	}
	asked(t, "Apart", Apart, twins, twins[:1], true)
	asked(t, "Apart", Apart, twins[1:], twins, true)
}

// shape is a value of a field of either class, of few fields, so that two of them are often Alike.
func shape(r *rand.Rand) api.Oxm {
	if r.Intn(4) == 0 {
		return extra(r.Intn(2), uint64(r.Intn(2)), make([]byte, 1+r.Intn(10)/9)...)
	}
	n := []int{0, 2, 3, 6, 7, 5, 10, 11, 12, 14, 38}[r.Intn(11)]
	f, _ := field.Of(n)
	return basic(n, make([]byte, f.Size)...)
}

// fill gives a value bits, of which few are 1, so that two of them often do not clash.
func fill(r *rand.Rand, b []byte, width int) {
	for place := range width {
		if r.Intn(6) == 0 {
			b[len(b)-1-place/8] |= 1 << (place % 8)
		}
	}
}

// randomValue is a value that may be.
func randomValue(r *rand.Rand) api.Oxm {
	for {
		o := shape(r)
		switch {
		case o.Class == api.Basic && o.Field == 5:
			o.Value = []byte{8, 0}
		case o.Class == api.Basic && o.Field == 10:
			o.Value = []byte{byte(6 + 11*r.Intn(5)/4)}
		default:
			fill(r, o.Value, min(widthOf(o), 8*(1+r.Intn(2))))
		}
		if r.Intn(2) == 0 {
			o = masked(o, slices.Clone(o.Value)...)
			fill(r, o.Mask, widthOf(o))
		}
		if oxm.Right(o) {
			return o
		}
	}
}

// randomMatch is a match.
func randomMatch(r *rand.Rand) []api.Oxm {
	var l []api.Oxm
	for range r.Intn(8) {
		if more := append(l, randomValue(r)); match.Right(more) {
			l = more
		}
	}
	return l
}

// packetFor is a packet in which each field stands once, with values that may be, most of which lists take.
func packetFor(r *rand.Rand, lists ...[]api.Oxm) []api.Oxm {
	var packet []api.Oxm
	add := func(o api.Oxm) {
		o.Value = slices.Clone(o.Value)
		if o.Has {
			free := make([]byte, len(o.Value))
			fill(r, free, widthOf(o))
			for i, b := range free {
				o.Value[i] |= b &^ o.Mask[i]
			}
		}
		o.Has, o.Mask = false, nil
		if oxm.Right(o) && !slices.ContainsFunc(packet, func(p api.Oxm) bool { return oxm.Alike(o, p) }) {
			packet = append(packet, o)
		}
	}
	// What they meet in comes first, where they do, so that the packet has what both say of a field.
	if both, ok := met(lists[0], lists[1]); ok && r.Intn(4) > 0 {
		lists = append([][]api.Oxm{both}, lists...)
	}
	for _, l := range lists {
		for _, o := range l {
			if r.Intn(20) > 0 {
				add(o)
			}
		}
	}
	for range r.Intn(4) {
		add(randomValue(r))
	}
	r.Shuffle(len(packet), func(i, j int) { packet[i], packet[j] = packet[j], packet[i] })
	return packet
}

// follows asks for what follows of two matches for a packet in which each field stands once, and tells what the packet's was.
func follows(t *testing.T, a, b, packet []api.Oxm) string {
	t.Helper()
	ofA, ofB := Takes(a, packet), Takes(b, packet)
	l, ok := Meet(a, b)
	what := "none"
	switch {
	case ok && Takes(l, packet) != (ofA && ofB):
		t.Errorf("%v: taken by %v is not as by %v and %v", packet, l, a, b)
	case !ok && ofA && ofB:
		t.Errorf("%v: taken by %v and %v, which do not meet", packet, a, b)
	case ofA && ofB:
		what = "both"
	case ofA || ofB:
		what = "one"
	}
	if Within(a, b) && ofA && !ofB || Within(b, a) && ofB && !ofA {
		t.Errorf("%v: taken by one of %v and %v alone", packet, a, b)
	}
	if Apart(a, b) && ofA && ofB {
		t.Errorf("%v: taken by both %v and %v", packet, a, b)
	}
	if ok && (!Within(l, a) || !Within(l, b) || Apart(a, b)) {
		t.Errorf("%v: what %v and %v meet in is not within both", l, a, b)
	}
	return what
}

// CO4: what follows for random matches, and packets, of which there are some of each kind.
func TestFollows(t *testing.T) {
	r := rand.New(rand.NewSource(11))
	counted := map[string]int{}
	for range 20000 {
		a, b := randomMatch(r), randomMatch(r)
		if r.Intn(4) == 0 {
			b = a[:r.Intn(len(a)+1)]
		}
		held(t, a, b)
		for range 3 {
			counted[follows(t, a, b, packetFor(r, a, b))]++
		}
		if Within(a, b) && len(b) > 0 {
			counted["within"]++
		}
		if Apart(a, b) {
			counted["apart"]++
		}
		if l, ok := Meet(a, b); ok && len(l) < len(a)+len(b) {
			counted["met"]++
		}
	}
	for _, what := range []string{"none", "one", "both", "within", "apart", "met"} {
		if counted[what] < 1000 {
			t.Errorf("of %s there were %d", what, counted[what])
		}
	}
}

// anyValue is a value that may often not be.
func anyValue(r *rand.Rand) api.Oxm {
	some := func() []byte {
		b := make([]byte, r.Intn(4))
		for i := range b {
			b[i] = byte(r.Intn(4))
		}
		return b
	}
	o := api.Oxm{Class: []int{api.Basic, api.Extra, 0, -1}[r.Intn(4)], Field: r.Intn(3) - 1, Exp: uint64(r.Intn(2)), Value: some()}
	if r.Intn(2) == 0 {
		o.Mask = some()
	}
	o.Has = r.Intn(2) == 0
	return o
}

// CO1, CO2, CO3: random lists of values that may not be, some of which are Alike.
func TestAnyLists(t *testing.T) {
	r := rand.New(rand.NewSource(12))
	for range 20000 {
		var lists [2][]api.Oxm
		for i := range lists {
			for range r.Intn(6) {
				o := anyValue(r)
				if r.Intn(3) == 0 {
					o = randomValue(r)
				}
				lists[i] = append(lists[i], o)
			}
		}
		held(t, lists[0], lists[1])
	}
}

// What is answered is new memory, of which no two values share any, and what lies behind lists is neither read nor written.
func TestMemory(t *testing.T) {
	eth := basic(5, 8, 0)
	build := func() ([]api.Oxm, []api.Oxm) {
		behind := func(l ...api.Oxm) []api.Oxm {
			l = append(clone(l), basic(5, 8, 6), basic(77))
			for i, o := range l {
				l[i].Value = append(o.Value, 66, 77)[:len(o.Value)]
				l[i].Mask = append(o.Mask, 255, 255)[:len(o.Mask)]
			}
			return l[:len(l)-2]
		}
		return behind(eth, ip(8, 10, 0, 0, 0), extra(1, 1, 7), masked(extra(2, 1, 1), 3)), behind(masked(basic(3, 1, 0, 0, 0, 0, 0), 3, 0, 0, 0, 0, 0), eth, ip(16, 10, 1, 0, 0), masked(extra(2, 1, 4), 12))
	}
	want := []api.Oxm{masked(basic(3, 1, 0, 0, 0, 0, 0), 3, 0, 0, 0, 0, 0), eth, ip(16, 10, 1, 0, 0), extra(1, 1, 7), masked(extra(2, 1, 5), 15)}
	a, b := build()
	meets(t, a, b, want)
	l, _ := Meet(a, b)
	spoil(a)
	spoil(b)
	if !equal(l, want) {
		t.Errorf("what is handed in was kept: %v", l)
	}
	a, b = build()
	wasA, wasB := clone(a[:cap(a)]), clone(b[:cap(b)])
	l, _ = Meet(a, b)
	again, _ := Meet(a, b)
	spoil(l)
	if !equal(a[:cap(a)], wasA) || !equal(b[:cap(b)], wasB) || !equal(again, want) {
		t.Errorf("what is answered is not new: %v, %v, %v", a, b, again)
	}
	for i := range again {
		o := again[i]
		flip(o.Value[:cap(o.Value)])
		for j := range again {
			if j != i && !equalOne(again[j], want[j]) {
				t.Errorf("%d shares memory with %d", j, i)
			}
		}
		flip(o.Value[:cap(o.Value)])
		flip(o.Mask[:cap(o.Mask)])
		for j := range again {
			if j != i && !equalOne(again[j], want[j]) || !slices.Equal(again[j].Value, want[j].Value) {
				t.Errorf("%d shares memory with the mask of %d", j, i)
			}
		}
		flip(o.Mask[:cap(o.Mask)])
	}
	// The same list twice.
	same, _ := Meet(b, b)
	spoil(same)
	if !equal(b[:cap(b)], wasB) {
		t.Errorf("what is answered is not new: %v", b)
	}
}

// listOf reads a list of values out of bytes, whatever they are.
func listOf(b []byte) []api.Oxm {
	next := func(n int) []byte {
		n = min(n, len(b))
		out := b[:n]
		b = b[n:]
		return out
	}
	var l []api.Oxm
	for len(b) > 4 {
		h := next(4)
		o := api.Oxm{Class: api.Basic, Field: int(h[0])%43 - 1, Has: h[1]&1 == 1}
		if h[1]&6 == 6 {
			o.Class, o.Exp = api.Extra, uint64(h[1]>>5)
		}
		f, _ := field.Of(o.Field)
		o.Value = next(f.Size + int(h[2]%2))
		if o.Has {
			o.Mask = next(len(o.Value) + int(h[3]%2))
		}
		l = append(l, o)
	}
	return l
}

// CO1, CO2, CO3: whatever lists there are, each call answers what the chapter's words tell.
func FuzzLists(f *testing.F) {
	f.Add([]byte{6, 0, 0, 0, 8, 0, 12, 1, 0, 0, 10, 0, 0, 0, 255, 0, 0, 0}, []byte{6, 0, 0, 0, 8, 0, 12, 1, 0, 0, 10, 1, 0, 0, 255, 255, 0, 0})
	f.Add([]byte{7, 1, 0, 0, 16, 0, 16, 0, 3, 7, 0, 0, 1, 0, 0, 0, 3, 0, 0, 0}, []byte{7, 1, 0, 0, 0, 3, 15, 255, 3, 6, 1, 1, 1, 2, 3, 4, 5})
	f.Fuzz(func(t *testing.T, x, y []byte) {
		held(t, listOf(x), listOf(y))
	})
}
