package head

import (
	"math"
	"slices"
	"testing"

	"gunwale/api"
)

// listed are the types as the chapter lists them: how many bytes a message has at least, and the type that answers it, or none.
var listed = []struct {
	name          string
	least, answer int
}{
	{"Hello", 8, none}, {"Error", 12, none}, {"EchoRequest", 8, 3}, {"EchoReply", 8, none}, {"Experimenter", 16, none},
	{"FeaturesRequest", 8, 6}, {"FeaturesReply", 32, none}, {"GetConfigRequest", 8, 8}, {"GetConfigReply", 12, none}, {"SetConfig", 12, none},
	{"PacketIn", 34, none}, {"FlowRemoved", 56, none}, {"PortStatus", 80, none}, {"PacketOut", 24, none}, {"FlowMod", 56, none},
	{"GroupMod", 16, none}, {"PortMod", 40, none}, {"TableMod", 16, none}, {"PartRequest", 16, 19}, {"PartReply", 16, none},
	{"BarrierRequest", 8, 21}, {"BarrierReply", 8, none}, {"QueueRequest", 16, 23}, {"QueueReply", 16, none}, {"RoleRequest", 24, 25},
	{"RoleReply", 24, none}, {"AsyncRequest", 8, 27}, {"AsyncReply", 32, none}, {"SetAsync", 32, none}, {"MeterMod", 16, none},
}

// none is no type.
const none = -1

// far are numbers beyond all that a head's may be, at the edges of what an int holds and of what fewer bits hold; some, cut off, would be a type or a version.
var far = []int{math.MinInt, math.MinInt + 4, math.MinInt + 8, math.MinInt32, -1<<32 + 4, -1 << 32, -65536 + 8, -65536, -65528, -257, -256, -255, -252, -248, -100, -9, -8, -4, -2, -1,
	1 << 17, 1<<17 + 8, 1<<24 + 8, 1<<31 + 8, math.MaxInt32, math.MaxUint32, 1 << 32, 1<<32 + 2, 1<<32 + 4, 1<<32 + 8, 1<<56 + 8, math.MaxInt - 1, math.MaxInt}

// xids are numbers of messages, at the edges and with bytes that are told apart.
var xids = []uint32{0, 1, 9, 255, 256, 65535, 65536, 0x01020304, 0x80000000, math.MaxUint32}

// plain is a head's bytes, told as plainly as can be.
func plain(h Head) []byte {
	return []byte{byte(h.Version), byte(h.Type), byte(h.Len >> 8), byte(h.Len), byte(h.Xid >> 24), byte(h.Xid >> 16), byte(h.Xid >> 8), byte(h.Xid)}
}

// put asks Put for a head's bytes, and Get for the head.
func put(t *testing.T, h Head) {
	t.Helper()
	b, e := Put(h)
	if e != api.OK || !slices.Equal(b, plain(h)) {
		t.Errorf("Put of %v: %v, %d; not %v", h, b, e, plain(h))
	}
	got(t, b, h)
}

// notPut asks Put for ErrArg, and nothing beside it.
func notPut(t *testing.T, h Head) {
	t.Helper()
	if b, e := Put(h); e != api.ErrArg || b != nil {
		t.Errorf("Put of %v: %v, %d", h, b, e)
	}
}

// got asks Get for a head.
func got(t *testing.T, b []byte, want Head) {
	t.Helper()
	if h, e := Get(b); e != api.OK || h != want {
		t.Errorf("Get of %v: %v, %d; not %v", b, h, e, want)
	}
}

// notGot asks Get for ErrShort, and nothing beside it.
func notGot(t *testing.T, b []byte) {
	t.Helper()
	if h, e := Get(b); e != api.ErrShort || h != (Head{}) {
		t.Errorf("Get of %v: %v, %d", b, h, e)
	}
}

// checked asks Check for an error.
func checked(t *testing.T, h Head, want api.Errno) {
	t.Helper()
	if e := Check(h); e != want {
		t.Errorf("Check of %v: %d, not %d", h, e, want)
	}
}

// The chapter's example.
func TestExample(t *testing.T) {
	h := Head{Version: 4, Type: 2, Len: 8, Xid: 9}
	if b, e := Put(h); e != api.OK || !slices.Equal(b, []byte{4, 2, 0, 8, 0, 0, 0, 9}) {
		t.Errorf("Put: %v, %d", b, e)
	}
	got(t, []byte{4, 2, 0, 8, 0, 0, 0, 9}, h)
	checked(t, h, api.OK)
	if Least(2) != 8 {
		t.Errorf("Least: %d", Least(2))
	}
}

// The document's examples 1 and 2, as far as heads go.
func TestExamplesOfTheWhole(t *testing.T) {
	for _, x := range []struct {
		b    []byte
		want api.Errno
	}{
		{[]byte{4, 20, 0, 8, 0, 0, 0, 9}, api.OK},
		{[]byte{1, 20, 0, 8, 0, 0, 0, 9}, api.BadVersion},
		{[]byte{4, 30, 0, 8, 0, 0, 0, 9}, api.BadType},
	} {
		h, e := Get(x.b)
		if e != api.OK {
			t.Errorf("Get of %v: %d", x.b, e)
		}
		checked(t, h, x.want)
	}
}

// HD1: each version and each type has its byte, whether there is such a one or not.
func TestPutVersionsAndTypes(t *testing.T) {
	for version := -300; version <= 600; version++ {
		for kind := -300; kind <= 600; kind++ {
			h := Head{version, kind, 8, 0x01020304}
			if version >= 0 && version <= 255 && kind >= 0 && kind <= 255 {
				put(t, h)
			} else {
				notPut(t, h)
			}
		}
	}
}

// HD1: each length from 8 to 65535 has its bytes, of whatever type, and no other one has.
func TestPutLengths(t *testing.T) {
	for length := -70000; length <= 140000; length++ {
		h := Head{4, 12, length, 9}
		if length >= 8 && length <= 65535 {
			put(t, h)
		} else {
			notPut(t, h)
		}
	}
}

// HD1: each number of a message has its bytes.
func TestPutXids(t *testing.T) {
	for _, xid := range xids {
		put(t, Head{4, 2, 8, xid})
		put(t, Head{255, 255, 65535, xid})
		put(t, Head{0, 0, 8, xid})
	}
	for i := range 32 {
		put(t, Head{4, 2, 8, 1 << i})
	}
}

// HD1: one number beyond what it may be is enough, whichever it is, and no number is cut off.
func TestPutOfFarNumbers(t *testing.T) {
	for _, n := range append(far, 256, 257, 260, 264, 65536) {
		notPut(t, Head{n, 2, 8, 9})
		notPut(t, Head{4, n, 8, 9})
		notPut(t, Head{n, n, 8, 9})
	}
	for _, n := range append(far, 0, 1, 7, 65536, 65537, 65544) {
		notPut(t, Head{4, 2, n, 9})
		notPut(t, Head{n, n, n, 9})
	}
	notPut(t, Head{})
}

// HD1: of fewer than 8 bytes there is no head, whatever they are, and whatever lies behind them in memory.
func TestGetOfFewBytes(t *testing.T) {
	whole := []byte{4, 2, 0, 8, 0, 0, 0, 9}
	notGot(t, nil)
	for n := range len(whole) {
		notGot(t, whole[:n])
		notGot(t, slices.Clone(whole[:n]))
		notGot(t, make([]byte, n))
	}
}

// HD1: the head is that of the first 8 bytes, however many there are.
func TestGetOfManyBytes(t *testing.T) {
	b := []byte{1, 2, 3, 4, 5, 6, 7, 8, 9, 10, 11, 12, 13, 14, 15, 16}
	for n := 8; n <= len(b); n++ {
		got(t, b[:n], Head{1, 2, 0x0304, 0x05060708})
	}
	got(t, b[8:], Head{9, 10, 0x0b0c, 0x0d0e0f10})
	got(t, append(slices.Clone(b[:8]), make([]byte, 1<<20)...), Head{1, 2, 0x0304, 0x05060708})
}

// HD1: Get tells whatever the bytes are: a length that may not be, a version and a type that there are not.
func TestGetOfAnyBytes(t *testing.T) {
	for i := range 8 {
		for x := range 256 {
			b := make([]byte, 8)
			b[i] = byte(x)
			want := Head{}
			switch i {
			case 0:
				want.Version = x
			case 1:
				want.Type = x
			case 2, 3:
				want.Len = x << (8 * (3 - i))
			default:
				want.Xid = uint32(x) << (8 * (7 - i))
			}
			got(t, b, want)
		}
	}
	for length := range 65536 {
		got(t, []byte{4, 2, byte(length >> 8), byte(length), 0, 0, 0, 9}, Head{4, 2, length, 9})
	}
	got(t, slices.Repeat([]byte{255}, 8), Head{255, 255, 65535, math.MaxUint32})
}

// HD2: how many bytes a message of each type has at least.
func TestLeast(t *testing.T) {
	if len(listed) != 30 {
		t.Fatalf("%d types are listed", len(listed))
	}
	for kind, x := range listed {
		if n := Least(kind); n != x.least {
			t.Errorf("Least of %s: %d, not %d", x.name, n, x.least)
		}
	}
}

// HD2: what is no type has no least length.
func TestLeastOfNoType(t *testing.T) {
	for _, kind := range append(far, 255, 256, 257, 65535, 65536) {
		if n := Least(kind); n != 0 {
			t.Errorf("Least of %d: %d", kind, n)
		}
	}
	for kind := len(listed); kind < 70000; kind++ {
		if n := Least(kind); n != 0 {
			t.Errorf("Least of %d: %d", kind, n)
		}
	}
}

// HD2: a message of each type may have each length from the least on, up to 65535.
func TestCheckLengths(t *testing.T) {
	for kind, x := range listed {
		for length := -100; length <= 200; length++ {
			want := api.OK
			if length < x.least {
				want = api.BadLen
			}
			checked(t, Head{4, kind, length, 9}, want)
		}
		for length := 65400; length <= 65700; length++ {
			want := api.OK
			if length > 65535 {
				want = api.BadLen
			}
			checked(t, Head{4, kind, length, 9}, want)
		}
		for _, length := range far {
			checked(t, Head{4, kind, length, 9}, api.BadLen)
		}
	}
}

// HD2: a hello may have each version from 1 to 255, any other message just the version 4.
func TestCheckVersions(t *testing.T) {
	for kind, x := range listed {
		for version := -300; version <= 600; version++ {
			want := api.OK
			if version != 4 && (kind != 0 || version < 1 || version > 255) {
				want = api.BadVersion
			}
			checked(t, Head{version, kind, x.least, 9}, want)
		}
		for _, version := range append(far, 0, 256, 260) {
			checked(t, Head{version, kind, x.least, 9}, api.BadVersion)
		}
	}
}

// HD2: what is no type is BadType, of whatever length.
func TestCheckTypes(t *testing.T) {
	lengths := append(far, 0, 7, 8, 80, 65535, 65536)
	for kind := -300; kind <= 600; kind++ {
		if kind >= 0 && kind < len(listed) {
			checked(t, Head{4, kind, 80, 9}, api.OK)
			continue
		}
		for _, length := range lengths {
			checked(t, Head{4, kind, length, 9}, api.BadType)
		}
	}
	for _, kind := range far {
		for _, length := range lengths {
			checked(t, Head{4, kind, length, 9}, api.BadType)
		}
	}
}

// HD2: where several errors apply, the version's is told first, then the type's, then the length's.
func TestCheckOrder(t *testing.T) {
	for _, length := range append(far, 0, 7, 8, 65535, 65536) {
		for _, kind := range append(far, 1, 2, 29, 30, 255, 256) {
			for _, version := range append(far, 0, 1, 3, 5, 255, 256) {
				checked(t, Head{version, kind, length, 9}, api.BadVersion)
			}
		}
		for _, version := range append(far, 0, 256) {
			checked(t, Head{version, 0, length, 9}, api.BadVersion)
		}
	}
	for _, version := range []int{1, 3, 4, 5, 255} {
		for _, length := range append(far, 0, 7, 65536) {
			checked(t, Head{version, 0, length, 9}, api.BadLen)
		}
	}
	checked(t, Head{}, api.BadVersion)
}

// HD2: the number of a message is of no matter.
func TestCheckXids(t *testing.T) {
	for _, xid := range xids {
		checked(t, Head{4, 2, 8, xid}, api.OK)
		checked(t, Head{3, 2, 8, xid}, api.BadVersion)
		checked(t, Head{4, 30, 8, xid}, api.BadType)
		checked(t, Head{4, 2, 7, xid}, api.BadLen)
	}
}

// HD3: the type that answers each type that is answered, and none for the others.
func TestAnswer(t *testing.T) {
	for kind, x := range listed {
		answer, ok := Answer(kind)
		if x.answer == none {
			if answer != 0 || ok {
				t.Errorf("Answer of %s: %d, %v", x.name, answer, ok)
			}
		} else if answer != x.answer || !ok {
			t.Errorf("Answer of %s: %d, %v; not %d", x.name, answer, ok, x.answer)
		}
	}
}

// HD3: what is no type has no answer.
func TestAnswerOfNoType(t *testing.T) {
	kinds := append(far, 258, 65538, 1<<16+20)
	for kind := len(listed); kind < 1000; kind++ {
		kinds = append(kinds, kind, -kind)
	}
	for kind := range listed {
		kinds = append(kinds, -kind-1, kind+256, kind-256, kind+1<<32)
	}
	for _, kind := range kinds {
		if answer, ok := Answer(kind); answer != 0 || ok {
			t.Errorf("Answer of %d: %d, %v", kind, answer, ok)
		}
	}
}

// HD4: what was put is got, with whatever behind it.
func TestThereAndBack(t *testing.T) {
	for _, version := range []int{0, 1, 4, 127, 128, 255} {
		for _, kind := range []int{0, 1, 29, 30, 128, 255} {
			for _, length := range []int{8, 9, 255, 256, 257, 32768, 65280, 65535} {
				for _, xid := range xids {
					h := Head{version, kind, length, xid}
					put(t, h)
					b, _ := Put(h)
					got(t, append(b, 1, 2, 3), h)
				}
			}
		}
	}
}

// Rule 5: what is handed in is not changed, and what is answered is new memory.
func TestMemory(t *testing.T) {
	in := []byte{4, 2, 0, 8, 0, 0, 0, 9, 7}
	Get(in)
	if !slices.Equal(in, []byte{4, 2, 0, 8, 0, 0, 0, 9, 7}) {
		t.Errorf("Get has changed its bytes: %v", in)
	}
	h := Head{4, 2, 8, 9}
	a, _ := Put(h)
	clear(a[:cap(a)])
	put(t, h)
}

// HD1, HD4: any bytes are got as they stand, and the head, if it may be put, is those bytes.
func FuzzGet(f *testing.F) {
	f.Add([]byte{4, 2, 0, 8, 0, 0, 0, 9})
	f.Add([]byte{255, 255, 255, 255, 255, 255, 255, 255, 255})
	f.Add([]byte{4, 2, 0, 7, 0, 0, 0, 9})
	f.Add([]byte{4, 2, 0})
	f.Fuzz(func(t *testing.T, b []byte) {
		if len(b) < 8 {
			notGot(t, b)
			return
		}
		h, e := Get(b)
		if e != api.OK || !slices.Equal(plain(h), b[:8]) {
			t.Errorf("Get of %v: %v, %d", b, h, e)
		}
		if h.Len < 8 {
			notPut(t, h)
		} else {
			put(t, h)
		}
	})
}

// HD1, HD2, HD4: whatever the numbers are, they are put just if they have room, and checked as the chapter's order says.
func FuzzPut(f *testing.F) {
	f.Add(4, 2, 8, uint32(9))
	f.Add(256, 2, 8, uint32(9))
	f.Add(4, -1, 65536, uint32(9))
	f.Add(1, 0, 8, uint32(0))
	f.Fuzz(func(t *testing.T, version, kind, length int, xid uint32) {
		h := Head{version, kind, length, xid}
		if version < 0 || version > 255 || kind < 0 || kind > 255 || length < 8 || length > 65535 {
			notPut(t, h)
		} else {
			put(t, h)
		}
		known := kind >= 0 && kind < len(listed)
		switch {
		case kind == 0 && (version < 1 || version > 255), kind != 0 && version != 4:
			checked(t, h, api.BadVersion)
		case !known:
			checked(t, h, api.BadType)
		case length < listed[kind].least || length > 65535:
			checked(t, h, api.BadLen)
		default:
			checked(t, h, api.OK)
		}
	})
}
