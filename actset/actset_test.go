package actset

import (
	"math"
	"math/rand"
	"slices"
	"testing"

	"gunwale/action"
	"gunwale/acts"
	"gunwale/api"
)

// turn is a place in a set: the type of an action, with the rank that the chapter says, and of a SetField the field.
type turn struct{ rank, kind, field int }

// turns are all places, in the order in which their actions are done.
var turns = listed()

// listed tells all places as the chapter lists them.
func listed() []turn {
	l := []turn{{1, 12, 0}, {2, 18, 0}, {2, 20, 0}, {2, 27, 0}, {3, 19, 0}, {4, 26, 0}, {5, 17, 0}, {6, 11, 0}, {7, 16, 0}, {7, 24, 0}, {8, 15, 0}, {8, 23, 0}}
	for f := 3; f < 39; f++ {
		l = append(l, turn{8, 25, f})
	}
	return append(l, turn{9, 21, 0}, turn{10, 22, 0}, turn{11, 0, 0})
}

// turnOf tells which of all places an action has, from 0 on; -1, if it has none.
func turnOf(a api.Act) int {
	return slices.IndexFunc(turns, func(t turn) bool { return t.kind == a.Type && (t.kind != 25 || t.field == a.Set.Field) })
}

// sizes are how many bytes the values of the fields have.
func sizes() []int {
	return []int{4, 4, 8, 6, 6, 2, 2, 1, 1, 1, 1, 4, 4, 2, 2, 2, 2, 2, 2, 1, 1, 2, 4, 4, 6, 6, 16, 16, 4, 1, 1, 16, 6, 6, 4, 1, 1, 3, 8, 2}
}

// act is an action with numbers alone.
func act(kind int, a, b uint64) api.Act { return api.Act{Type: kind, A: a, B: b} }

// out is an output to a port.
func out(port uint64) api.Act { return act(action.Output, port, 0) }

// set is an action that sets a field.
func set(field int, value ...byte) api.Act {
	return api.Act{Type: action.SetField, Set: api.Oxm{Class: api.Basic, Field: field, Value: value}}
}

// own is an experimenter's action.
func own(a uint64, data ...byte) api.Act {
	return api.Act{Type: action.Experiment, A: a, Data: data}
}

// at is an action that may be in one of all places; by the number it is one or another, if its type has more than one.
func at(place, number int) api.Act {
	n := number & 1
	switch t := turns[place]; t.kind {
	case action.SetField:
		value := make([]byte, sizes()[t.field])
		value[len(value)-1] = byte(n)
		return set(t.field, value...)
	case action.Output:
		return act(t.kind, uint64(number&0xffff)+1, uint64(n))
	case action.PushVlan:
		return act(t.kind, []uint64{33024, 34984}[n], 0)
	case action.PushMpls:
		return act(t.kind, []uint64{34887, 34888}[n], 0)
	case action.PushPbb:
		return act(t.kind, 35047, 0)
	case action.Group, action.SetQueue, action.PopMpls, action.SetMplsTtl, action.SetTtl:
		return act(t.kind, uint64(number&0xff), 0)
	default:
		return act(t.kind, 0, 0)
	}
}

// whole is the set that has an action in each place.
func whole(number int) []api.Act {
	var l []api.Act
	for i := range turns {
		l = append(l, at(i, number))
	}
	return l
}

// few is a set of four actions.
func few() []api.Act {
	return []api.Act{act(action.PopVlan, 0, 0), set(3, 1, 2, 3, 4, 5, 6), act(action.Group, 7, 0), out(3)}
}

// strangers are actions that may be, but stand in no set.
func strangers() []api.Act {
	return []api.Act{own(0), own(7), own(math.MaxUint32, 1, 2, 3, 4, 5, 6, 7, 8)}
}

// wrongActs are actions that may not be.
func wrongActs() []api.Act {
	bare := func(change func(a *api.Act)) api.Act {
		a := act(action.CopyIn, 0, 0)
		change(&a)
		return a
	}
	masked := set(3, 0, 0, 0, 0, 0, 1)
	masked.Set.Has, masked.Set.Mask = true, []byte{0, 0, 0, 0, 0, 1}
	extra := set(3, 1)
	extra.Set.Class = api.Extra
	owned := set(3, 1, 2, 3, 4, 5, 6)
	owned.Set.Exp = 1
	return []api.Act{{}, out(0), out(1 << 32), act(action.Output, 1, 65536), act(1, 0, 0), act(10, 0, 0), act(13, 0, 0), act(14, 0, 0), act(28, 0, 0), act(-1, 0, 0), act(65534, 0, 0), act(65536, 1, 0), act(1<<32, 1, 0), act(math.MinInt, 0, 0), act(math.MaxInt, 0, 0),
		act(action.Group, 4294967041, 0), act(action.Group, 7, 1), act(action.SetQueue, 1<<32, 0), act(action.SetTtl, 256, 0), act(action.SetMplsTtl, 256, 0), act(action.PushVlan, 34887, 0), act(action.PushMpls, 33024, 0), act(action.PushPbb, 33024, 0), act(action.PopMpls, 65536, 0),
		act(action.SetField, 0, 0), set(0, 0, 0, 0, 1), set(1, 0, 0, 0, 1), set(2, 0, 0, 0, 0, 0, 0, 0, 1), set(39, 0, 1), set(40, 1), set(-1, 1), set(3, 1), set(7, 8), set(36, 2), masked, extra, owned, own(1 << 32), own(1, 1), own(1, make([]byte, 65528)...),
		bare(func(a *api.Act) { a.A = 1 }), bare(func(a *api.Act) { a.B = 1 }), bare(func(a *api.Act) { a.Data = []byte{0} }), bare(func(a *api.Act) { a.Set.Field = 3 }), bare(func(a *api.Act) { a.Set.Has = true })}
}

// equalOne holds two actions against one another without action's Same.
func equalOne(a, b api.Act) bool {
	return a.Type == b.Type && a.A == b.A && a.B == b.B && slices.Equal(a.Data, b.Data) &&
		a.Set.Class == b.Set.Class && a.Set.Field == b.Set.Field && a.Set.Has == b.Set.Has && a.Set.Exp == b.Set.Exp && slices.Equal(a.Set.Value, b.Set.Value) && slices.Equal(a.Set.Mask, b.Set.Mask)
}

// equal holds two lists against one another.
func equal(a, b []api.Act) bool { return slices.EqualFunc(a, b, equalOne) }

// clone is a copy of a list in memory of its own.
func clone(l []api.Act) []api.Act {
	c := slices.Clone(l)
	for i, a := range c {
		c[i].Set.Value, c[i].Set.Mask, c[i].Data = slices.Clone(a.Set.Value), slices.Clone(a.Set.Mask), slices.Clone(a.Data)
	}
	return c
}

// lists are all lists of the actions.
func lists(l []api.Act) [][]byte {
	var all [][]byte
	for _, a := range l {
		all = append(all, a.Set.Value, a.Set.Mask, a.Data)
	}
	return all
}

// flip changes all bits.
func flip(b []byte) {
	for i := range b {
		b[i] ^= 255
	}
}

// spoil changes all of the actions, and what lies behind them and their lists in memory.
func spoil(l []api.Act) {
	for _, b := range lists(l) {
		flip(b[:cap(b)])
	}
	l = l[:cap(l)]
	for i := range l {
		l[i].Type, l[i].A, l[i].B, l[i].Set.Class, l[i].Set.Exp = -7, 77, 77, -7, 77
	}
}

// isSet is Right, told by the list of all places.
func isSet(l []api.Act) bool {
	last := -1
	for _, a := range l {
		n := turnOf(a)
		if n <= last || !action.Right(a) {
			return false
		}
		last = n
	}
	return true
}

// writable tells whether all actions of a list may be written.
func writable(l []api.Act) bool {
	return !slices.ContainsFunc(l, func(a api.Act) bool { return turnOf(a) < 0 || !action.Right(a) })
}

// written is Write, told place by place: of all that was to stand there, the last one does.
func written(set, l []api.Act) ([]api.Act, api.Errno) {
	if !isSet(set) || !writable(l) {
		return nil, api.ErrArg
	}
	var w []api.Act
	for i := range turns {
		all := slices.DeleteFunc(slices.Concat(set, l), func(a api.Act) bool { return turnOf(a) != i })
		if n := len(all); n > 0 {
			w = append(w, all[n-1])
		}
	}
	return w, api.OK
}

// done is Plan, told type by type.
func done(set []api.Act) []api.Act {
	if !isSet(set) {
		return nil
	}
	group := slices.ContainsFunc(set, func(a api.Act) bool { return a.Type == 22 })
	return slices.DeleteFunc(slices.Clone(set), func(a api.Act) bool { return group && a.Type == 0 })
}

// lost is Drops, told type by type.
func lost(set []api.Act) bool {
	return !isSet(set) || !slices.ContainsFunc(set, func(a api.Act) bool { return a.Type == 0 || a.Type == 22 })
}

// asked asks for all that is told of one list, which may be a set or not, and that it is not changed.
func asked(t *testing.T, l []api.Act, want bool) {
	t.Helper()
	was := clone(l)
	if Right(l) != want || isSet(l) != want {
		t.Errorf("Right of %v: %v, not %v", l, Right(l), want)
	}
	p := Plan(l)
	if !equal(p, done(l)) {
		t.Errorf("Plan of %v: %v, not %v", l, p, done(l))
	}
	if Drops(l) != lost(l) {
		t.Errorf("Drops of %v: %v", l, Drops(l))
	}
	wrote(t, l)
	if !want && (len(p) != 0 || !Drops(l)) {
		t.Errorf("of %v, which is no set: %v, %v", l, p, Drops(l))
	}
	if want && (len(l) > 51 || !Right(p) || Drops(p) != Drops(l) || !equal(Plan(p), p) || !acts.Right(l)) {
		t.Errorf("of the set %v: %v, %v, %v", l, p, Drops(p), Plan(p))
	}
	if !equal(l, was) {
		t.Errorf("%v was changed to %v", was, l)
	}
}

// wrote asks for what comes of writing actions into a list, which may be a set or not, and that neither is changed.
func wrote(t *testing.T, set []api.Act, l ...api.Act) []api.Act {
	t.Helper()
	wasSet, was := clone(set), clone(l)
	want, wantE := written(set, l)
	w, e := Write(set, l...)
	if e != wantE || !equal(w, want) {
		t.Errorf("Write of %v into %v: %v, %d; not %v, %d", l, set, w, e, want, wantE)
	}
	if e != api.OK && len(w) != 0 || e == api.OK && !Right(w) {
		t.Errorf("Write of %v into %v is no set: %v, %d", l, set, w, e)
	}
	if !equal(set, wasSet) || !equal(l, was) {
		t.Errorf("Write of %v into %v changed these to %v, %v", was, wasSet, l, set)
	}
	return w
}

// The chapter's example.
func TestExample(t *testing.T) {
	for _, none := range [][]api.Act{nil, {}} {
		w, e := Write(none, out(3), act(action.PopVlan, 0, 0), out(4))
		if want := []api.Act{act(action.PopVlan, 0, 0), out(4)}; e != api.OK || !equal(w, want) {
			t.Errorf("%v, %d; not %v", w, e, want)
		}
	}
}

// AS1: the rank of each type, as the chapter lists them, whether the action may be or not.
func TestRank(t *testing.T) {
	ranks := map[int]int{12: 1, 18: 2, 20: 2, 27: 2, 19: 3, 26: 4, 17: 5, 11: 6, 16: 7, 24: 7, 15: 8, 23: 8, 25: 8, 21: 9, 22: 10, 0: 11}
	types := []int{math.MinInt, math.MinInt + 1, math.MinInt32, -1 << 32, 1<<32 - 1, 1 << 32, 1<<32 + 12, math.MaxInt32, math.MaxInt - 1, math.MaxInt}
	for n := -300; n < 70000; n++ {
		types = append(types, n)
	}
	for _, n := range types {
		for _, a := range []api.Act{{Type: n}, {Type: n, A: math.MaxUint64, B: 1, Set: api.Oxm{Class: -1, Field: 12, Has: true, Mask: []byte{1}}, Data: []byte{1}}} {
			if Rank(a) != ranks[n] {
				t.Errorf("Rank of %d: %d, not %d", n, Rank(a), ranks[n])
			}
		}
	}
	for i, a := range whole(1) {
		if Rank(a) != turns[i].rank {
			t.Errorf("Rank of %v: %d", a, Rank(a))
		}
	}
	for _, a := range strangers() {
		if Rank(a) != 0 {
			t.Errorf("Rank of %v: %d", a, Rank(a))
		}
	}
}

// AS1, AS4: no actions are a set; so is each of 51, all of them together, and these without any one.
func TestWhole(t *testing.T) {
	for _, l := range [][]api.Act{nil, {}, few()[:0]} {
		asked(t, l, true)
	}
	for number := range 3 {
		l := whole(number)
		if len(l) != 51 {
			t.Fatalf("%d places", len(l))
		}
		asked(t, l, true)
		for i := range l {
			asked(t, l[i:i+1], true)
			asked(t, l[:i], true)
			asked(t, l[i:], true)
			asked(t, slices.Delete(whole(number), i, i+1), true)
		}
	}
}

// AS1: of two actions one stands ahead of the other, by rank, by type, by field; whatever its numbers and bytes.
func TestPairs(t *testing.T) {
	first, second := whole(0), whole(1)
	for i, a := range first {
		for j := range second {
			for _, b := range []api.Act{first[j], second[j]} {
				asked(t, []api.Act{a, b}, i < j)
				asked(t, []api.Act{b, a}, j < i)
			}
		}
	}
}

// AS1: what is out of order, or twice in one place, is no set, wherever that is.
func TestOutOfOrder(t *testing.T) {
	n := len(turns)
	for i := range n {
		for j := range n {
			swapped := whole(1)
			swapped[i], swapped[j] = swapped[j], swapped[i]
			asked(t, swapped, i == j)
			if Right(slices.Insert(whole(1), i, at(j, 0))) || Right(slices.Insert(whole(1), i, at(j, 1))) {
				t.Errorf("Right of what has the place %d twice", j)
			}
		}
		asked(t, slices.Insert(whole(1), i, at(i, 0)), false)
		asked(t, slices.Insert(whole(1), i, at(i, 1)), false)
	}
	backward := whole(1)
	slices.Reverse(backward)
	asked(t, backward, false)
	asked(t, append(whole(1), whole(1)...), false)
	for _, many := range []int{52, 64, 65, 100000} {
		l := slices.Repeat([]api.Act{out(1)}, many)
		if Right(l) || !Drops(l) || len(Plan(l)) != 0 {
			t.Errorf("Right of %d outputs", many)
		}
	}
}

// AS1, AS2, AS3: an action that may not be, or has no rank, makes no set, wherever it stands, and is not written.
func TestWrongActions(t *testing.T) {
	for _, a := range slices.Concat(wrongActs(), strangers()) {
		asked(t, []api.Act{a}, false)
		asked(t, []api.Act{a, a}, false)
		for i := range 5 {
			asked(t, slices.Insert(few(), i, a), false)
		}
		for i := range turns {
			l := whole(0)
			l[i] = a
			asked(t, l, false)
		}
		for _, into := range [][]api.Act{nil, few(), whole(1), {a}, slices.Insert(few(), 2, a)} {
			for _, l := range [][]api.Act{{a}, {a, out(1)}, {out(1), a}, {out(1), a, act(action.CopyIn, 0, 0)}, append(whole(0), a)} {
				if w := wrote(t, into, l...); len(w) != 0 {
					t.Errorf("Write of %v into %v: %v", l, into, w)
				}
			}
		}
	}
	// Into what is no set nothing is written, even if that would mend it.
	for _, into := range [][]api.Act{{out(3), act(action.PopVlan, 0, 0)}, {out(3), out(4)}, {out(0)}, {{}}, {own(1)}} {
		for _, l := range [][]api.Act{nil, {}, {out(3)}, whole(0)} {
			if w, e := Write(into, l...); e != api.ErrArg || len(w) != 0 {
				t.Errorf("Write of %v into %v: %v, %d", l, into, w, e)
			}
		}
	}
	// What a later action would stand in the place of is asked all the same.
	if w, e := Write(nil, out(0), out(3)); e != api.ErrArg || len(w) != 0 {
		t.Errorf("Write of an output to 0: %v, %d", w, e)
	}
}

// AS2: what is written stands in the place of the one with its place, or anew.
func TestWrite(t *testing.T) {
	push := act(action.PushVlan, 33024, 0)
	for _, x := range []struct{ set, l, want []api.Act }{
		{nil, nil, nil}, {few(), nil, few()}, {few(), few(), few()}, {nil, few(), few()}, {nil, []api.Act{out(3)}, []api.Act{out(3)}},
		{nil, []api.Act{out(3), few()[2], few()[1], few()[0]}, few()},
		// In another's place.
		{few(), []api.Act{act(action.Output, 9, 65535)}, append(few()[:3], act(action.Output, 9, 65535))}, {few(), []api.Act{set(3, 6, 5, 4, 3, 2, 1)}, []api.Act{few()[0], set(3, 6, 5, 4, 3, 2, 1), few()[2], few()[3]}},
		{few(), []api.Act{out(4), out(5), out(3), out(6)}, append(few()[:3], out(6))}, {[]api.Act{push}, []api.Act{act(action.PushVlan, 34984, 0), push, act(action.PushVlan, 34984, 0)}, []api.Act{act(action.PushVlan, 34984, 0)}},
		// Anew: ahead of all, between, and behind.
		{few(), []api.Act{act(action.CopyIn, 0, 0)}, slices.Concat([]api.Act{act(action.CopyIn, 0, 0)}, few())}, {few(), []api.Act{push}, slices.Insert(few(), 1, push)}, {few()[:3], []api.Act{out(8)}, append(few()[:3], out(8))},
		// Of one rank: by type, and then by field.
		{[]api.Act{act(action.PopMpls, 5, 0)}, []api.Act{act(action.PopPbb, 0, 0), act(action.PopVlan, 0, 0)}, []api.Act{act(action.PopVlan, 0, 0), act(action.PopMpls, 5, 0), act(action.PopPbb, 0, 0)}},
		{[]api.Act{set(3, 1, 2, 3, 4, 5, 6)}, []api.Act{act(action.SetTtl, 5, 0), act(action.SetMplsTtl, 6, 0)}, []api.Act{act(action.SetMplsTtl, 6, 0), act(action.SetTtl, 5, 0), set(3, 1, 2, 3, 4, 5, 6)}},
		{[]api.Act{set(5, 8, 0)}, []api.Act{set(4, 1, 2, 3, 4, 5, 6), set(6, 0, 1), set(5, 8, 6)}, []api.Act{set(4, 1, 2, 3, 4, 5, 6), set(5, 8, 6), set(6, 0, 1)}},
		{nil, []api.Act{act(action.DecTtl, 0, 0), act(action.DecMplsTtl, 0, 0), act(action.DecTtl, 0, 0)}, []api.Act{act(action.DecMplsTtl, 0, 0), act(action.DecTtl, 0, 0)}},
		// Of the number of rank, and not of the type, that is less.
		{nil, []api.Act{act(action.PushVlan, 33024, 0), act(action.PushMpls, 34887, 0), act(action.PushPbb, 35047, 0), out(1), act(action.CopyOut, 0, 0), act(action.CopyIn, 0, 0)},
			[]api.Act{act(action.CopyIn, 0, 0), act(action.PushMpls, 34887, 0), act(action.PushPbb, 35047, 0), act(action.PushVlan, 33024, 0), act(action.CopyOut, 0, 0), out(1)}},
	} {
		if w := wrote(t, x.set, x.l...); !equal(w, x.want) {
			t.Errorf("Write of %v into %v: %v, not %v", x.l, x.set, w, x.want)
		}
	}
}

// AS2: in each place of the whole set what is written stands, and nothing else is changed.
func TestWriteEach(t *testing.T) {
	for i := range turns {
		without := slices.Delete(whole(0), i, i+1)
		one := whole(0)
		one[i] = at(i, 1)
		for _, into := range [][]api.Act{without, whole(0), one} {
			if w := wrote(t, into, at(i, 1)); !equal(w, one) {
				t.Errorf("Write of %v: %v", at(i, 1), w)
			}
			if w := wrote(t, into, at(i, 0), at(i, 1), at(i, 0)); !equal(w, whole(0)) {
				t.Errorf("Write of %v: %v", at(i, 0), w)
			}
		}
		for j := range turns {
			want := []api.Act{at(min(i, j), 1), at(max(i, j), 1)}
			if i == j {
				want = want[:1]
			}
			if w := wrote(t, []api.Act{at(i, 1)}, at(j, 1)); !equal(w, want) {
				t.Errorf("Write of %v into %v: %v", at(j, 1), at(i, 1), w)
			}
		}
	}
}

// AS2, AS4: in whatever order many are written, there are at most 51, and of each place the last.
func TestWriteMany(t *testing.T) {
	r := rand.New(rand.NewSource(14))
	for range 40 {
		l := slices.Concat(whole(0), whole(1), whole(2))
		r.Shuffle(len(l), func(i, j int) { l[i], l[j] = l[j], l[i] })
		w := wrote(t, nil, append(l, whole(7)...)...)
		if !equal(w, whole(7)) {
			t.Errorf("Write of many: %v", w)
		}
		if w = wrote(t, nil, l...); len(w) != 51 {
			t.Errorf("Write of many: %d", len(w))
		}
	}
	var l []api.Act
	for i := range 100000 {
		l = append(l, at(r.Intn(51), i))
	}
	l = append(l, whole(5)...)
	if w, e := Write(whole(1), l...); e != api.OK || !equal(w, whole(5)) {
		t.Errorf("Write of %d: %d, %d", len(l), len(w), e)
	}
	if w, e := Write(whole(1), append(l, out(0))...); e != api.ErrArg || len(w) != 0 {
		t.Errorf("Write of %d and what may not be: %d, %d", len(l), len(w), e)
	}
}

// AS3: with a Group there is no Output; without either the packet is dropped.
func TestPlan(t *testing.T) {
	pop, group := act(action.PopVlan, 0, 0), act(action.Group, 7, 0)
	for _, x := range []struct {
		set, want []api.Act
		drops     bool
	}{
		{nil, nil, true}, {[]api.Act{}, nil, true}, {[]api.Act{pop}, []api.Act{pop}, true}, {[]api.Act{out(3)}, []api.Act{out(3)}, false}, {[]api.Act{group}, []api.Act{group}, false}, {[]api.Act{act(action.Group, 0, 0)}, []api.Act{act(action.Group, 0, 0)}, false},
		{[]api.Act{group, out(3)}, []api.Act{group}, false}, {few(), few()[:3], false}, {few()[:3], few()[:3], false}, {few()[:2], few()[:2], true}, {[]api.Act{pop, out(3)}, []api.Act{pop, out(3)}, false}, {[]api.Act{act(action.SetQueue, 1, 0), out(3)}, []api.Act{act(action.SetQueue, 1, 0), out(3)}, false},
		{whole(1), whole(1)[:50], false}, {whole(1)[:49], whole(1)[:49], true}, {whole(1)[:50], whole(1)[:50], false}, {slices.Delete(whole(1), 49, 50), slices.Delete(whole(1), 49, 50), false},
		// What is no set.
		{[]api.Act{out(3), group}, nil, true}, {[]api.Act{out(3), out(3)}, nil, true}, {[]api.Act{out(3), pop}, nil, true}, {[]api.Act{out(0)}, nil, true}, {[]api.Act{group, out(0)}, nil, true}, {[]api.Act{{}, out(3)}, nil, true}, {[]api.Act{own(1), out(3)}, nil, true}, {[]api.Act{out(3), own(1)}, nil, true}, {[]api.Act{own(1)}, nil, true},
	} {
		if p := Plan(x.set); !equal(p, x.want) {
			t.Errorf("Plan of %v: %v, not %v", x.set, p, x.want)
		}
		if Drops(x.set) != x.drops {
			t.Errorf("Drops of %v: %v", x.set, !x.drops)
		}
		asked(t, x.set, isSet(x.set))
	}
}

// AS4: what is written once more changes nothing; one behind the other, or all at once, comes to the same.
func TestWhatFollows(t *testing.T) {
	r := rand.New(rand.NewSource(41))
	for range 300 {
		into := slices.DeleteFunc(whole(r.Intn(9)), func(api.Act) bool { return r.Intn(3) > 0 })
		var l []api.Act
		for range r.Intn(30) {
			l = append(l, at(r.Intn(51), r.Intn(99)))
		}
		cut := r.Intn(len(l) + 1)
		all, e := Write(into, l...)
		first, e1 := Write(into, l[:cut]...)
		both, e2 := Write(first, l[cut:]...)
		step := into
		for _, a := range l {
			step, _ = Write(step, a)
		}
		if e != api.OK || e1 != api.OK || e2 != api.OK || !equal(all, both) || !equal(all, step) {
			t.Errorf("Write of %v into %v: %v; %v; %v", l, into, all, both, step)
		}
		for _, more := range [][]api.Act{l, nil, all, all[len(all)/2:]} {
			if again, e := Write(all, more...); e != api.OK || !equal(again, all) {
				t.Errorf("Write of %v once more: %v, %d; not %v", more, again, e, all)
			}
		}
		if again, e := Write(nil, all...); e != api.OK || !equal(again, all) {
			t.Errorf("Write of the set %v: %v, %d", all, again, e)
		}
		asked(t, all, true)
	}
}

// apart asks that no two lists of an answer share memory: who changes one changes no other.
func apart(t *testing.T, l []api.Act) {
	t.Helper()
	was, all := lists(clone(l)), lists(l)
	for i, b := range all {
		flip(b[:cap(b)])
		for j := range all {
			if j != i && !slices.Equal(all[j], was[j]) {
				t.Errorf("who changed the list %d changed %d: %v", i, j, l)
			}
		}
		flip(b[:cap(b)])
	}
}

// AS2, AS3: what is answered is new memory, and no two lists of it share any.
func TestNewMemory(t *testing.T) {
	for _, into := range [][]api.Act{nil, few(), few()[:2], whole(1), whole(0)[:49]} {
		for _, l := range [][]api.Act{nil, few(), {set(3, 9, 9, 9, 9, 9, 9), set(38, 1, 2, 3, 4, 5, 6, 7, 8)}, whole(2)} {
			wasInto, was := clone(into), clone(l)
			want, _ := written(wasInto, was)
			a, _ := Write(into, l...)
			b, _ := Write(into, l...)
			p, q := Plan(a), Plan(a)
			for _, x := range [][]api.Act{a, b, p, q} {
				apart(t, x)
			}
			spoil(p)
			if !equal(a, want) || !equal(q, done(want)) {
				t.Errorf("who changed a plan changed %v to %v, %v", want, a, q)
			}
			spoil(a)
			if !equal(b, want) || !equal(q, done(want)) || !equal(into, wasInto) || !equal(l, was) {
				t.Errorf("who changed an answer changed %v, %v, %v to %v, %v, %v, %v", want, wasInto, was, b, q, into, l)
			}
			a, into, l = clone(wasInto), clone(wasInto), clone(was)
			p = Plan(a)
			spoil(a)
			b, _ = Write(into, l...)
			spoil(into)
			spoil(l)
			if !equal(b, want) || !equal(p, done(wasInto)) {
				t.Errorf("who changed what was handed in changed %v to %v, %v", want, b, p)
			}
			into = clone(wasInto)
		}
	}
	// Lists that are handed in may share memory; those of the answer do not.
	shared := []byte{1, 2, 3, 4, 5, 6, 7, 8}
	into := []api.Act{set(3, shared[:6]...), set(4, shared[1:7]...)}
	w, e := Write(into, set(5, shared[:2]...), set(38, shared...), into[0])
	if e != api.OK || len(w) != 4 {
		t.Errorf("%v, %d", w, e)
	}
	apart(t, w)
	apart(t, Plan(into))
	if !slices.Equal(shared, []byte{1, 2, 3, 4, 5, 6, 7, 8}) {
		t.Errorf("what is handed in was changed to %v", shared)
	}
}

// AS1, AS2, AS3: what lies behind a list's length in its memory is neither read nor written.
func TestBehindInMemory(t *testing.T) {
	for n := range 5 {
		behind := []api.Act{out(9), {}, own(7), act(action.CopyIn, 0, 0)}
		all := slices.Concat(few()[:n], behind)
		more := slices.Concat([]api.Act{out(5), act(action.CopyIn, 0, 0)}, behind)
		asked(t, all[:n], true)
		for _, l := range [][]api.Act{more[:0], more[:1], more[:2], all[:n], all[:n/2]} {
			w := wrote(t, all[:n], l...)
			_ = append(w, out(1), out(2), out(3))
		}
		_ = append(Plan(all[:n]), out(1), out(2))
		if !equal(all, slices.Concat(few()[:n], behind)) || !equal(more[2:], behind) {
			t.Errorf("what lies behind was changed to %v, %v", all, more)
		}
	}
	// What is written may lie in the memory of the set itself.
	all := whole(1)
	if w := wrote(t, all[:30], all[20:]...); !equal(w, whole(1)) || !equal(all, whole(1)) {
		t.Errorf("Write of a part of the set's memory: %v", w)
	}
	// A plan hands out nothing of the output that it has no more.
	p := Plan(few())
	for _, a := range p[len(p):cap(p)] {
		if !equalOne(a, api.Act{}) {
			t.Errorf("behind the plan lies %v", a)
		}
	}
}

// told is an action, told by three numbers: most may be written.
func told(kind, a, more byte) api.Act {
	switch {
	case kind < 220:
		return at(int(kind)%51, int(a))
	case kind < 230:
		return act(int(a)%30, uint64(more), 0)
	case kind < 240:
		return set(int(a)%42, more, more)
	case kind < 250:
		return act(action.Output, uint64(a)<<(more%34), uint64(more)<<(a%10))
	}
	return own(uint64(a), make([]byte, more)...)
}

// toldList is as many actions as bytes tell, three of them each.
func toldList(b []byte) []api.Act {
	var l []api.Act
	for i := 0; i+3 <= min(len(b), 300); i += 3 {
		l = append(l, told(b[i], b[i+1], b[i+2]))
	}
	return l
}

// AS1, AS2, AS3: lists by the thousand are what the chapter's words tell; enough of them are sets, and are written.
func TestManyLists(t *testing.T) {
	r := rand.New(rand.NewSource(1414))
	sets, fine := 0, 0
	for range 1500 {
		b := make([]byte, 3*r.Intn(20))
		for i := range b {
			b[i] = byte(r.Intn(256))
		}
		l := toldList(b)
		into := slices.DeleteFunc(whole(r.Intn(9)), func(api.Act) bool { return r.Intn(2) > 0 })
		if r.Intn(4) == 0 {
			into = slices.Clone(l)
			slices.SortFunc(into, func(x, y api.Act) int { return turnOf(x) - turnOf(y) })
		}
		asked(t, l, isSet(l))
		asked(t, into, isSet(into))
		wrote(t, into, l...)
		if isSet(into) && len(into) > 1 {
			sets++
			if writable(l) && len(l) > 1 {
				fine++
			}
		}
	}
	if sets < 900 || fine < 200 {
		t.Errorf("%d sets alone, into %d of which is written", sets, fine)
	}
}

// AS1, AS2, AS3, AS4: whatever two lists have, it is what the chapter's words tell.
func FuzzLists(f *testing.F) {
	f.Add([]byte{}, []byte{})
	f.Add([]byte{50, 3, 0, 1, 0, 0}, []byte{50, 4, 0})
	f.Add([]byte{49, 1, 0, 50, 2, 0}, []byte{0, 0, 0, 250, 1, 8, 245, 0, 0})
	f.Fuzz(func(t *testing.T, b, c []byte) {
		x, y := toldList(b), toldList(c)
		asked(t, x, isSet(x))
		wrote(t, x, y...)
		w := wrote(t, nil, x...)
		asked(t, w, true)
		wrote(t, w, y...)
		if writable(x) && !equal(wrote(t, w, x...), w) {
			t.Errorf("Write of %v once more changes %v", x, w)
		}
	})
}
