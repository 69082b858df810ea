package need

import (
	"cmp"
	"math"
	"math/big"
	"math/rand"
	"slices"
	"testing"

	"gunwale/api"
	"gunwale/field"
	"gunwale/oxm"
)

// asker is a field, the field it asks for, and the numbers of which that must have one (none: any but 0).
type asker struct {
	n, need int
	values  []uint64
}

// askers are the fields that ask for another, as the chapter of fields lists them.
var askers = []asker{
	{1, 0, nil}, {7, 6, nil},
	{8, 5, []uint64{2048, 34525}}, {9, 5, []uint64{2048, 34525}}, {10, 5, []uint64{2048, 34525}},
	{11, 5, []uint64{2048}}, {12, 5, []uint64{2048}},
	{13, 10, []uint64{6}}, {14, 10, []uint64{6}}, {15, 10, []uint64{17}}, {16, 10, []uint64{17}}, {17, 10, []uint64{132}}, {18, 10, []uint64{132}},
	{19, 10, []uint64{1}}, {20, 10, []uint64{1}},
	{21, 5, []uint64{2054}}, {22, 5, []uint64{2054}}, {23, 5, []uint64{2054}}, {24, 5, []uint64{2054}}, {25, 5, []uint64{2054}},
	{26, 5, []uint64{34525}}, {27, 5, []uint64{34525}}, {28, 5, []uint64{34525}},
	{29, 10, []uint64{58}}, {30, 10, []uint64{58}},
	{31, 29, []uint64{135, 136}}, {32, 29, []uint64{135}}, {33, 29, []uint64{136}},
	{34, 5, []uint64{34887, 34888}}, {35, 5, []uint64{34887, 34888}}, {36, 5, []uint64{34887, 34888}},
	{37, 5, []uint64{35047}}, {39, 5, []uint64{34525}},
}

// free are the fields that ask for nothing.
var free = []int{0, 2, 3, 4, 5, 6, 38}

// noField are numbers that are no field, beside the fields and at the edges of what an int holds and of what fewer bits hold; some, cut off, would be one.
var noField = []int{math.MinInt, math.MinInt + 13, math.MinInt32, -1<<32 + 13, -65536 + 13, -256 + 13, -40, -13, -5, -1,
	40, 41, 127, 128, 255, 256 + 13, 65536 + 13, math.MaxInt32, 1<<32 + 5, 1<<32 + 13, math.MaxInt}

// noBasic are numbers that are not the class Basic, some of which, cut off, would be.
var noBasic = []int{math.MinInt, math.MinInt + api.Basic, -1<<32 + api.Basic, -api.Basic, -1, 0, 1, api.Basic - 1, api.Basic + 1, api.Extra, 1<<16 + api.Basic, 1<<32 + api.Basic, math.MaxInt}

// basic is a value without a mask.
func basic(n int, value ...byte) api.Oxm {
	return api.Oxm{Class: api.Basic, Field: n, Value: value}
}

// masked is the same with a mask.
func masked(o api.Oxm, mask ...byte) api.Oxm {
	o.Has, o.Mask = true, mask
	return o
}

// extra is a value of the class Extra.
func extra(n int, exp uint64, value ...byte) api.Oxm {
	return api.Oxm{Class: api.Extra, Field: n, Exp: exp, Value: value}
}

// full is a value of a field, its number told in as many bytes as it has.
func full(n int, number uint64) api.Oxm {
	f, _ := field.Of(n)
	return basic(n, new(big.Int).SetUint64(number).FillBytes(make([]byte, max(f.Size, 8)))[max(f.Size, 8)-f.Size:]...)
}

// equal holds two values against one another without oxm.
func equal(a, b api.Oxm) bool {
	return a.Class == b.Class && a.Field == b.Field && a.Has == b.Has && a.Exp == b.Exp && slices.Equal(a.Value, b.Value) && slices.Equal(a.Mask, b.Mask)
}

// clone is a copy of a list in new memory.
func clone(l []api.Oxm) []api.Oxm {
	c := slices.Clone(l)
	for i, o := range c {
		c[i].Value, c[i].Mask = slices.Clone(o.Value), slices.Clone(o.Mask)
	}
	return c
}

// flip changes all bits.
func flip(b []byte) {
	for i := range b {
		b[i] ^= 255
	}
}

// spoil changes all bytes of a list's values, and what lies behind them and the list in memory.
func spoil(l []api.Oxm) {
	for _, o := range l {
		flip(o.Value[:cap(o.Value)])
		flip(o.Mask[:cap(o.Mask)])
	}
	l = l[:cap(l)]
	for i := range l {
		l[i].Class, l[i].Field, l[i].Has, l[i].Exp = -7, -7, !l[i].Has, 77
	}
}

// isMet is Met, told with numbers as the chapter words it.
func isMet(l []api.Oxm, o api.Oxm) bool {
	f, ok := field.Of(o.Field)
	if o.Class != api.Basic || !ok || f.Need == -1 {
		return true
	}
	size, _ := field.Of(f.Need)
	return slices.ContainsFunc(l, func(x api.Oxm) bool {
		number := new(big.Int).SetBytes(x.Value)
		switch {
		case x.Class != api.Basic || x.Field != f.Need:
			return false
		case len(f.Values) == 0:
			return number.Sign() != 0
		}
		return !x.Has && len(x.Value) == size.Size && slices.ContainsFunc(f.Values, func(v uint64) bool { return number.Cmp(new(big.Int).SetUint64(v)) == 0 })
	})
}

// checked is Check, told as the chapter words it.
func checked(l []api.Oxm) (int, api.Errno) {
	for i, o := range l {
		if slices.ContainsFunc(l[:i], func(x api.Oxm) bool { return oxm.Alike(x, o) }) {
			return i, api.MatchTwice
		}
		if !isMet(l[:i], o) {
			return i, api.MatchNeed
		}
	}
	return 0, api.OK
}

// missed is Missing, told field by field.
func missed(l []api.Oxm) []int {
	var out []int
	for n := range api.Fields {
		asked, there := false, false
		for _, o := range l {
			asked = asked || o.Class == api.Basic && slices.Contains(field.Needs(o.Field), n)
			there = there || o.Class == api.Basic && o.Field == n
		}
		if asked && !there {
			out = append(out, n)
		}
	}
	return out
}

// sorted is Sort, told by taking the least one out, again and again, of several the first.
func sorted(l []api.Oxm) []api.Oxm {
	left, out := clone(l), []api.Oxm(nil)
	for len(left) > 0 {
		least := 0
		for i, o := range left {
			if cmp.Or(cmp.Compare(o.Class, left[least].Class), cmp.Compare(o.Field, left[least].Field), cmp.Compare(o.Exp, left[least].Exp)) < 0 {
				least = i
			}
		}
		out = append(out, left[least])
		left = slices.Delete(left, least, least+1)
	}
	return out
}

// met asks Met, and that it changes nothing.
func met(t *testing.T, l []api.Oxm, o api.Oxm, want bool) {
	t.Helper()
	was, one := clone(l), clone([]api.Oxm{o})[0]
	if ok := Met(l, o); ok != want {
		t.Errorf("Met of %v, %v: %v", l, o, ok)
	}
	if !slices.EqualFunc(l, was, equal) || !equal(o, one) {
		t.Errorf("Met changed %v, %v to %v, %v", was, one, l, o)
	}
}

// found asks Check for the first one that may not stand there, and that it changes nothing.
func found(t *testing.T, l []api.Oxm, place int, want api.Errno) {
	t.Helper()
	was := clone(l)
	if i, e := Check(l); i != place || e != want {
		t.Errorf("Check of %v: %d, %d; not %d, %d", l, i, e, place, want)
	}
	if !slices.EqualFunc(l, was, equal) {
		t.Errorf("Check changed %v to %v", was, l)
	}
}

// missing asks Missing, and that it changes nothing.
func missing(t *testing.T, l []api.Oxm, want ...int) {
	t.Helper()
	was := clone(l)
	if got := Missing(l); !slices.Equal(got, want) {
		t.Errorf("Missing of %v: %v, not %v", l, got, want)
	}
	if !slices.EqualFunc(l, was, equal) {
		t.Errorf("Missing changed %v to %v", was, l)
	}
}

// inOrder asks Sort, and that it changes nothing.
func inOrder(t *testing.T, l []api.Oxm, want ...api.Oxm) {
	t.Helper()
	was := clone(l)
	if got := Sort(l); !slices.EqualFunc(got, want, equal) {
		t.Errorf("Sort of %v: %v, not %v", l, got, want)
	}
	if !slices.EqualFunc(l, was, equal) {
		t.Errorf("Sort changed %v to %v", was, l)
	}
}

// held asks each call for what the chapter's words tell of a list, and for what follows of them.
func held(t *testing.T, l []api.Oxm) {
	t.Helper()
	for _, o := range l {
		met(t, l, o, isMet(l, o))
	}
	place, wrong := checked(l)
	found(t, l, place, wrong)
	missing(t, l, missed(l)...)
	inOrder(t, l, sorted(l)...)
	if wrong == api.OK {
		found(t, Sort(l), 0, api.OK)
		missing(t, l)
	}
}

// tcp is a match of a TCP port, in order.
func tcp() []api.Oxm {
	return []api.Oxm{basic(5, 8, 0), basic(10, 6), basic(14, 0, 80)}
}

// The chapter's example.
func TestExample(t *testing.T) {
	missing(t, []api.Oxm{basic(13, 0, 80)}, 5, 10)
	found(t, []api.Oxm{basic(13, 0, 80)}, 0, api.MatchNeed)
}

// NE1: each asker asks for just one field, and of all numbers of that for its own alone.
func TestMetEachNumber(t *testing.T) {
	for _, a := range askers {
		f, _ := field.Of(a.need)
		most := uint64(1)<<min(8*f.Size, 16) - 1
		for number := range most + 1 {
			l := []api.Oxm{full(a.need, number)}
			want := slices.Contains(a.values, number) || a.values == nil && number != 0
			if Met(l, basic(a.n)) != want {
				t.Errorf("Met of %v, %d: %v", l, a.n, !want)
			}
		}
	}
}

// NE1: of each field each value that is asked for of anyone meets those alone that ask for just this.
func TestMetEachPair(t *testing.T) {
	for n := range api.Fields {
		for _, number := range []uint64{0, 1, 6, 17, 58, 132, 135, 136, 2048, 2054, 34525, 34887, 34888, 35047} {
			l := []api.Oxm{full(n, number)}
			if f, _ := field.Of(n); f.Size == 1 && number > 255 {
				continue
			}
			for _, a := range askers {
				met(t, l, basic(a.n, 1, 2, 3), n == a.need && (slices.Contains(a.values, number) || a.values == nil && number != 0))
			}
			for _, m := range free {
				met(t, l, basic(m, 1, 2, 3), true)
			}
		}
	}
}

// lists are some lists, of which the first two have nothing.
func lists() [][]api.Oxm {
	return [][]api.Oxm{nil, {}, {{}}, {basic(5, 8, 6)}, {basic(10, 17), basic(5, 0, 0)}, {basic(-1)}, {extra(5, 0, 8, 0)}, tcp()}
}

// NE1: what is not Basic, is no field, or asks for nothing is met in any list.
func TestMetOfWhatAsksForNothing(t *testing.T) {
	for _, l := range lists() {
		for _, n := range free {
			met(t, l, basic(n), true)
			met(t, l, masked(basic(n, 1), 1), true)
		}
		for _, n := range noField {
			met(t, l, basic(n, 1), true)
		}
		for _, class := range noBasic {
			for n := range api.Fields {
				met(t, l, api.Oxm{Class: class, Field: n}, true)
			}
		}
	}
	for _, a := range askers {
		met(t, nil, basic(a.n), false)
		met(t, []api.Oxm{}, basic(a.n), false)
		met(t, []api.Oxm{{}}, basic(a.n), false)
	}
}

// NE1: where any number but 0 will do, a byte that is not 0 does, in any number of bytes, with a mask or without.
func TestMetByAny(t *testing.T) {
	for _, a := range askers {
		if a.values != nil {
			continue
		}
		for size := range 20 {
			value := make([]byte, size)
			met(t, []api.Oxm{basic(a.need, value...)}, basic(a.n), false)
			met(t, []api.Oxm{masked(basic(a.need, value...), 255, 255)}, basic(a.n), false)
			for i := range value {
				for _, b := range []byte{1, 16, 128, 255} {
					one := slices.Clone(value)
					one[i] = b
					met(t, []api.Oxm{basic(a.need, one...)}, basic(a.n), true)
					met(t, []api.Oxm{masked(basic(a.need, one...), make([]byte, size)...)}, basic(a.n), true)
					met(t, []api.Oxm{masked(basic(a.need, one...))}, basic(a.n), true)
				}
			}
		}
	}
}

// NE1: where numbers are named, a mask, or other than just as many bytes, does not do; nor does another class or field.
func TestMetByNumber(t *testing.T) {
	for _, a := range askers {
		for _, v := range a.values {
			good := full(a.need, v)
			size := len(good.Value)
			met(t, []api.Oxm{good}, basic(a.n), true)
			met(t, []api.Oxm{masked(good, slices.Repeat([]byte{255}, size)...)}, basic(a.n), false)
			met(t, []api.Oxm{masked(good)}, basic(a.n), false)
			met(t, []api.Oxm{masked(good, good.Value...)}, basic(a.n), false)
			// Without Has there is no mask, whatever bytes stand there.
			met(t, []api.Oxm{{Class: api.Basic, Field: a.need, Value: good.Value, Mask: []byte{1}}}, basic(a.n), true)
			// Exp is not asked.
			met(t, []api.Oxm{{Class: api.Basic, Field: a.need, Value: good.Value, Exp: math.MaxUint64}}, basic(a.n), true)
			for _, value := range [][]byte{nil, {}, good.Value[1:], good.Value[:size-1], append([]byte{0}, good.Value...), append(slices.Clone(good.Value), 0),
				append(make([]byte, 8-size), good.Value...), append(make([]byte, 8), good.Value...), append([]byte{1}, append(make([]byte, 7), good.Value...)...), make([]byte, size)} {
				met(t, []api.Oxm{basic(a.need, value...)}, basic(a.n), false)
			}
		}
	}
}

// NE1: what another class, or another field, has does not do.
func TestMetByOthers(t *testing.T) {
	for _, a := range askers {
		good := full(a.need, 7)
		if a.values != nil {
			good = full(a.need, a.values[0])
		}
		met(t, []api.Oxm{good}, basic(a.n), true)
		for _, class := range noBasic {
			other := good
			other.Class = class
			met(t, []api.Oxm{other}, basic(a.n), false)
		}
		for n := range api.Fields {
			other := good
			other.Field = n
			met(t, []api.Oxm{other}, basic(a.n), n == a.need)
		}
		for _, n := range noField {
			other := good
			other.Field = n
			met(t, []api.Oxm{other}, basic(a.n), false)
		}
	}
}

// NE1: one of a list is enough, wherever it stands, and whatever others of its field stand there.
func TestMetAnywhere(t *testing.T) {
	others := []api.Oxm{basic(5, 0, 0), masked(basic(5, 8, 0), 255, 255), basic(5, 8), extra(5, 0, 8, 0), basic(5), basic(10, 8), {}, basic(5, 134, 221)}
	for place := range len(others) + 1 {
		l := slices.Insert(clone(others), place, basic(5, 8, 0))
		met(t, l, basic(11), true)
		met(t, others, basic(11), false)
		met(t, l, basic(26), true)
		met(t, l, basic(21), false)
	}
}

// NE1: what o itself has, beside its class and its field, is of no matter; nor is whether it stands in the list.
func TestMetWhateverElse(t *testing.T) {
	for _, o := range []api.Oxm{basic(14), basic(14, 0, 80), basic(14, make([]byte, 100)...), masked(basic(14, 1), 2), {Class: api.Basic, Field: 14, Exp: 9, Mask: []byte{1}}} {
		met(t, tcp(), o, true)
		met(t, tcp()[:2], o, true)
		met(t, tcp()[:1], o, false)
		met(t, []api.Oxm{o}, o, false)
	}
	// Needs of needs are not asked.
	met(t, []api.Oxm{basic(10, 6)}, basic(14), true)
	met(t, []api.Oxm{basic(29, 135)}, basic(32), true)
}

// NE1: lists, and the first one that may not stand there.
func TestCheck(t *testing.T) {
	for _, x := range []struct {
		l     []api.Oxm
		place int
		want  api.Errno
	}{
		{nil, 0, api.OK}, {[]api.Oxm{}, 0, api.OK}, {[]api.Oxm{{}}, 0, api.OK}, {[]api.Oxm{{}, {}}, 1, api.MatchTwice}, {tcp(), 0, api.OK},
		// What is asked for must stand ahead.
		{[]api.Oxm{basic(14, 0, 80)}, 0, api.MatchNeed}, {[]api.Oxm{basic(5, 8, 0), basic(14, 0, 80)}, 1, api.MatchNeed}, {[]api.Oxm{basic(10, 6), basic(5, 8, 0)}, 0, api.MatchNeed},
		{[]api.Oxm{basic(5, 8, 0), basic(14, 0, 80), basic(10, 6)}, 1, api.MatchNeed}, {[]api.Oxm{basic(10, 6), basic(14, 0, 80)}, 0, api.MatchNeed},
		{[]api.Oxm{basic(5, 8, 0), basic(10, 17), basic(14, 0, 80)}, 2, api.MatchNeed}, {[]api.Oxm{basic(5, 8, 6), basic(10, 6), basic(14, 0, 80)}, 1, api.MatchNeed},
		{[]api.Oxm{masked(basic(5, 8, 0), 255, 255), basic(10, 6)}, 1, api.MatchNeed}, {[]api.Oxm{extra(5, 0, 8, 0), basic(10, 6)}, 1, api.MatchNeed},
		{[]api.Oxm{basic(0, 0, 0, 0, 0), basic(1, 0, 0, 0, 1)}, 1, api.MatchNeed}, {[]api.Oxm{basic(0, 0, 0, 0, 9), basic(1, 0, 0, 0, 1)}, 0, api.OK},
		{[]api.Oxm{basic(6, 0, 0), basic(7, 1)}, 1, api.MatchNeed}, {[]api.Oxm{masked(basic(6, 16, 0), 16, 0), basic(7, 1)}, 0, api.OK}, {[]api.Oxm{basic(7, 1), basic(6, 16, 1)}, 0, api.MatchNeed},
		{[]api.Oxm{basic(5, 134, 221), basic(10, 58), basic(29, 135), basic(31), basic(32)}, 0, api.OK}, {[]api.Oxm{basic(5, 134, 221), basic(10, 58), basic(29, 135), basic(31), basic(33)}, 4, api.MatchNeed},
		// Twice the same field, whatever value, mask, or number of bytes.
		{[]api.Oxm{basic(5, 8, 0), basic(5, 8, 0)}, 1, api.MatchTwice}, {[]api.Oxm{basic(5, 8, 0), basic(10, 6), basic(5, 8, 6)}, 2, api.MatchTwice}, {[]api.Oxm{basic(12), basic(12)}, 0, api.MatchNeed},
		{[]api.Oxm{basic(5, 8, 0), basic(12, 10, 0, 0, 0), masked(basic(12, 10, 0, 0, 0), 255, 0, 0, 0)}, 2, api.MatchTwice}, {[]api.Oxm{extra(1, 7, 1), basic(3), extra(1, 7, 2)}, 2, api.MatchTwice},
		{[]api.Oxm{basic(40), basic(40)}, 1, api.MatchTwice}, {[]api.Oxm{basic(-1), basic(-1, 1)}, 1, api.MatchTwice}, {[]api.Oxm{basic(5, 8, 6), basic(5, 8, 0), basic(10, 6)}, 1, api.MatchTwice},
		// Of another class, field or Exp it is another.
		{[]api.Oxm{extra(1, 7, 1), extra(1, 8, 1), extra(2, 7, 1), extra(1, 7+1<<32, 1), basic(0, 1), extra(0, 0)}, 0, api.OK},
		{[]api.Oxm{basic(5, 8, 0), {Class: api.Basic, Field: 5, Exp: 1, Value: []byte{8, 6}}, basic(10, 6), basic(21)}, 0, api.OK},
		// The first one is told, whatever is wrong behind.
		{[]api.Oxm{basic(3), basic(3), basic(14)}, 1, api.MatchTwice}, {[]api.Oxm{basic(3), basic(14), basic(3)}, 1, api.MatchNeed}, {[]api.Oxm{basic(14), basic(14)}, 0, api.MatchNeed},
		{[]api.Oxm{basic(3), basic(4), basic(14), basic(14), basic(3)}, 2, api.MatchNeed},
	} {
		found(t, x.l, x.place, x.want)
		held(t, x.l)
	}
}

// whole are the lists of all that each asker asks for, as it asks, and of it at last.
func whole(a asker) []api.Oxm {
	l := []api.Oxm{full(a.n, 3)}
	for {
		ahead := full(a.need, 5)
		if a.values != nil {
			ahead = full(a.need, a.values[len(a.values)-1])
		}
		l = slices.Insert(l, 0, ahead)
		i := slices.IndexFunc(askers, func(x asker) bool { return x.n == a.need })
		if i < 0 {
			return l
		}
		a = askers[i]
	}
}

// NE1, NE2, NE3: each asker behind all that it asks for; without one of them; behind it; with it twice.
func TestEachAsker(t *testing.T) {
	for _, a := range askers {
		l := whole(a)
		found(t, l, 0, api.OK)
		held(t, l)
		for i, o := range l[:len(l)-1] {
			without := slices.Delete(clone(l), i, i+1)
			found(t, without, i, api.MatchNeed)
			missing(t, without, o.Field)
			found(t, append(clone(without), o), i, api.MatchNeed)
			found(t, append(clone(l), o), len(l), api.MatchTwice)
		}
		for i := 1; i < len(l); i++ {
			found(t, slices.Concat(l[:i], l[:i], l[i:]), i, api.MatchTwice)
		}
		backwards := clone(l)
		slices.Reverse(backwards)
		found(t, backwards, 0, api.MatchNeed)
		inOrder(t, backwards, l...)
	}
}

// NE1: in a long list the first one that may not stand there is told, be it the last.
func TestCheckLong(t *testing.T) {
	var l []api.Oxm
	for exp := range uint64(1 << 16) {
		l = append(l, extra(int(exp%128), exp))
	}
	found(t, l, 0, api.OK)
	found(t, append(l, extra(0, 0)), len(l), api.MatchTwice)
	found(t, append(l, extra(127, math.MaxUint16)), len(l), api.MatchTwice)
	found(t, append(l, extra(126, math.MaxUint16)), 0, api.OK)
	found(t, append(l, basic(14)), len(l), api.MatchNeed)
	found(t, append(l, tcp()...), 0, api.OK)
	found(t, append(tcp(), append(l, basic(13), basic(13))...), len(l)+4, api.MatchTwice)
}

// NE2: each field alone misses all that it asks for, and what these ask for; so does it with each other.
func TestMissingEach(t *testing.T) {
	for n := range api.Fields {
		missing(t, []api.Oxm{basic(n)}, field.Needs(n)...)
		missing(t, []api.Oxm{masked(basic(n, 1), 1)}, field.Needs(n)...)
		for m := range api.Fields {
			l := []api.Oxm{basic(n), basic(m), basic(n)}
			missing(t, l, missed(l)...)
		}
	}
	for _, n := range free {
		missing(t, []api.Oxm{basic(n)})
	}
}

// NE2: what is missing, ascending, each once; what stands there with another value is not missing.
func TestMissing(t *testing.T) {
	for _, x := range []struct {
		l    []api.Oxm
		want []int
	}{
		{nil, nil}, {[]api.Oxm{}, nil}, {[]api.Oxm{{}}, nil}, {tcp(), nil},
		{[]api.Oxm{basic(33), basic(14), basic(7), basic(1), basic(11)}, []int{0, 5, 6, 10, 29}}, {[]api.Oxm{basic(14), basic(14), basic(13), basic(16)}, []int{5, 10}},
		{[]api.Oxm{basic(31), basic(29)}, []int{5, 10}}, {[]api.Oxm{basic(31), basic(10)}, []int{5, 29}}, {[]api.Oxm{basic(5), basic(31)}, []int{10, 29}}, {[]api.Oxm{basic(31), basic(5), basic(10), basic(29)}, nil},
		// With any value, be it none that is asked for, and wherever, it is there.
		{[]api.Oxm{basic(14), basic(10, 17), masked(basic(5), 1)}, nil}, {[]api.Oxm{basic(1), basic(0, 0, 0, 0, 0)}, nil}, {[]api.Oxm{{Class: api.Basic, Field: 5, Exp: 7}, basic(11)}, nil},
		// Of another class it is neither there, nor does it ask.
		{[]api.Oxm{basic(14), extra(10, 0, 6), extra(5, 0, 8, 0)}, []int{5, 10}}, {[]api.Oxm{extra(14, 0), extra(31, 7), {Field: 33}, {Class: -1, Field: 7}}, nil},
	} {
		missing(t, x.l, x.want...)
		held(t, x.l)
	}
	for _, n := range noField {
		missing(t, []api.Oxm{basic(n)})
		missing(t, []api.Oxm{basic(14), basic(n)}, 5, 10)
	}
	for _, class := range noBasic {
		missing(t, []api.Oxm{{Class: class, Field: 14}})
		missing(t, []api.Oxm{{Class: class, Field: 5}, {Class: class, Field: 10}, basic(14)}, 5, 10)
	}
}

// NE2: by Class, then Field, then Exp, each the least first.
func TestSort(t *testing.T) {
	rising := []api.Oxm{
		{Class: math.MinInt, Field: 9, Exp: 9}, {Class: -1, Field: math.MaxInt, Exp: math.MaxUint64}, {Class: 0, Field: -1}, {}, {Class: 0, Field: 0, Exp: 1}, {Class: 1, Field: -9},
		{Class: api.Basic - 1, Field: 99}, basic(math.MinInt), basic(-1), basic(0), {Class: api.Basic, Exp: 1}, {Class: api.Basic, Exp: math.MaxUint64}, basic(1), basic(5), basic(10), basic(39), basic(40), basic(math.MaxInt),
		extra(0, 0), extra(0, 1), extra(0, 1<<31), extra(0, 1<<63-1), extra(0, 1<<63), extra(0, math.MaxUint64), extra(1, 0), extra(127, 3), {Class: 1 << 16, Field: -1}, {Class: math.MaxInt, Field: math.MinInt},
	}
	inOrder(t, nil)
	inOrder(t, []api.Oxm{})
	inOrder(t, rising, rising...)
	backwards := clone(rising)
	slices.Reverse(backwards)
	inOrder(t, backwards, rising...)
	for i, a := range rising {
		for _, b := range rising[i+1:] {
			inOrder(t, []api.Oxm{a, b}, a, b)
			inOrder(t, []api.Oxm{b, a}, a, b)
		}
	}
}

// NE2: those that are Alike stay in the order in which they stood, whatever else they have, however many there are.
func TestSortAlike(t *testing.T) {
	inOrder(t, []api.Oxm{basic(6, 9), basic(5, 3), masked(basic(5, 1), 2), basic(6, 1), basic(5, 2), basic(5)},
		basic(5, 3), masked(basic(5, 1), 2), basic(5, 2), basic(5), basic(6, 9), basic(6, 1))
	var l, want []api.Oxm
	for i := range 3000 {
		l = append(l, extra(1-i%2, uint64(3-i%3), byte(i>>8), byte(i)))
	}
	for n := range 2 {
		for exp := range uint64(3) {
			for _, o := range l {
				if o.Field == n && o.Exp == exp+1 {
					want = append(want, o)
				}
			}
		}
	}
	inOrder(t, l, want...)
}

// NE2: what is answered is new memory, and no two lists of it share any.
func TestNewMemory(t *testing.T) {
	shared := []byte{8, 0, 7, 7}
	l := []api.Oxm{extra(3, 1, shared[:2]...), {Class: api.Basic, Field: 12, Has: true, Value: shared[:2], Mask: shared[:3]}, basic(5, shared[:2]...)}
	l = append(make([]api.Oxm, 0, 9), l...)
	was, want := clone(l), sorted(l)
	first, second := Sort(l), Sort(l)
	for i := range first {
		for _, b := range [][]byte{first[i].Value[:cap(first[i].Value)], first[i].Mask[:cap(first[i].Mask)]} {
			flip(b)
			for j := range first {
				if changed := !equal(first[j], want[j]); changed && j != i || i == j && len(b) > 0 && !changed {
					t.Errorf("who changed the bytes of %d changed %d: %v", i, j, first)
				}
			}
			if !slices.Equal(first[i].Value, want[i].Value) && !slices.Equal(first[i].Mask, want[i].Mask) {
				t.Errorf("Value and Mask of %d share memory: %v", i, first)
			}
			flip(b)
		}
	}
	spoil(first)
	_ = append(second[0].Value, 9, 9, 9)
	_ = append(second, basic(7), basic(7))
	if !slices.EqualFunc(l, was, equal) || !slices.EqualFunc(second, want, equal) {
		t.Errorf("who changed an answer changed %v, %v", l, second)
	}
	spoil(l)
	clear(shared)
	if !slices.EqualFunc(second, want, equal) {
		t.Errorf("who changed the list changed an answer to %v", second)
	}
	few := Missing([]api.Oxm{basic(31)})
	clear(few[:cap(few)])
	missing(t, []api.Oxm{basic(31)}, 5, 10, 29)
}

// What lies behind a list's, or a value's, length in memory is neither read nor written.
func TestBehindInMemory(t *testing.T) {
	l := tcp()
	found(t, []api.Oxm{l[2]}, 0, api.MatchNeed)
	backwards := []api.Oxm{l[2], l[1], l[0]}
	met(t, backwards[:1], l[2], false)
	met(t, backwards[:2], l[1], false)
	missing(t, backwards[:1], 5, 10)
	missing(t, backwards[:2], 5)
	inOrder(t, backwards[:2], l[1], l[2])
	if !slices.EqualFunc(backwards, []api.Oxm{l[2], l[1], l[0]}, equal) {
		t.Errorf("%v", backwards)
	}
	twice := append(tcp(), tcp()...)
	found(t, twice[:3], 0, api.OK)
	met(t, []api.Oxm{basic(5, []byte{8, 0}[:1]...)}, l[1], false)
	met(t, []api.Oxm{basic(0, []byte{0, 1}[:1]...)}, basic(1), false)
}

// numbers are those that are asked for of some field, and some others.
var numbers = [...]uint64{0, 1, 6, 17, 58, 132, 135, 136, 255, 2048, 2054, 34525, 34887, 34888, 35047, math.MaxUint16}

// told is a value, told by four numbers: most are such as ask, or are asked for.
func told(kind, n, number, more byte) api.Oxm {
	o := full(int(n)%44, numbers[number%16])
	if n >= 200 {
		o = full([]int{0, 5, 6, 10, 29}[n%5], numbers[number%16])
	}
	if kind%16 == 1 {
		o.Class = api.Extra
	}
	if kind%16 == 2 {
		o.Class = int(more) - 128
	}
	if kind%16 == 3 {
		o.Has, o.Mask = true, []byte{more}
	}
	if kind%32 == 4 {
		o.Exp = uint64(more % 3)
	}
	if kind%32 == 5 {
		o.Value = append([]byte{more % 2}, o.Value...)
	}
	return o
}

// NE1, NE2, NE3: lists by the thousand are told as the chapter words it; enough of them are Checked.
func TestManyLists(t *testing.T) {
	r := rand.New(rand.NewSource(9))
	fine := 0
	for range 20000 {
		var l []api.Oxm
		for range r.Intn(9) {
			o := told(byte(r.Intn(256)), byte(r.Intn(256)), byte(r.Intn(256)), byte(r.Intn(256)))
			// Most of what may not stand there is left out, so that lists may be long.
			if _, e := checked(append(clone(l), o)); e == api.OK || r.Intn(9) == 0 {
				l = append(l, o)
			}
		}
		held(t, l)
		r.Shuffle(len(l), func(i, j int) { l[i], l[j] = l[j], l[i] })
		held(t, l)
		if _, e := Check(l); e == api.OK && len(l) > 2 {
			fine++
		}
	}
	if fine < 1000 {
		t.Errorf("%d lists alone are checked", fine)
	}
}

// NE3: what is Checked stays so in order, and misses nothing: all parts of what all fields ask for.
func TestWhatFollows(t *testing.T) {
	r := rand.New(rand.NewSource(7))
	for range 5000 {
		var l []api.Oxm
		for range 40 {
			a := askers[r.Intn(len(askers))]
			for _, o := range whole(a) {
				if _, e := checked(append(clone(l), o)); e == api.OK {
					l = append(l, o)
				}
			}
		}
		found(t, l, 0, api.OK)
		missing(t, l)
		found(t, Sort(l), 0, api.OK)
		missing(t, Sort(l))
	}
}

// NE1, NE2, NE3: whatever a list has, it is told as the chapter words it.
func FuzzLists(f *testing.F) {
	f.Add([]byte{})
	f.Add([]byte{0, 5, 9, 0, 0, 10, 2, 0, 0, 14, 1, 0})
	f.Add([]byte{0, 14, 1, 0, 0, 10, 2, 0, 0, 5, 9, 0})
	f.Add([]byte{0, 5, 11, 0, 0, 10, 4, 0, 0, 29, 6, 0, 0, 31, 1, 0, 0, 32, 1, 0})
	f.Add([]byte{3, 6, 1, 1, 0, 7, 1, 0, 1, 7, 0, 0, 4, 6, 1, 1, 2, 40, 3, 9, 5, 5, 9, 0})
	f.Fuzz(func(t *testing.T, b []byte) {
		var l []api.Oxm
		for i := 0; i+4 <= min(len(b), 400); i += 4 {
			l = append(l, told(b[i], b[i+1], b[i+2], b[i+3]))
		}
		held(t, l)
	})
}
