package field

import (
	"math"
	"math/big"
	"slices"
	"strings"
	"testing"

	"gunwale/api"
)

// none is the Need of what asks for nothing.
const none = -1

// listed are the fields as the chapter lists them.
var listed = []struct {
	name       string
	bits, size int
	masked     bool
	need       int
	values     []uint64
	settable   bool
	needs      []int
}{
	{"in_port", 32, 4, false, none, nil, false, nil},
	{"in_phy_port", 32, 4, false, 0, nil, false, []int{0}},
	{"metadata", 64, 8, true, none, nil, false, nil},
	{"eth_dst", 48, 6, true, none, nil, true, nil},
	{"eth_src", 48, 6, true, none, nil, true, nil},
	{"eth_type", 16, 2, false, none, nil, true, nil},
	{"vlan_vid", 13, 2, true, none, nil, true, nil},
	{"vlan_pcp", 3, 1, false, 6, nil, true, []int{6}},
	{"ip_dscp", 6, 1, false, 5, []uint64{2048, 34525}, true, []int{5}},
	{"ip_ecn", 2, 1, false, 5, []uint64{2048, 34525}, true, []int{5}},
	{"ip_proto", 8, 1, false, 5, []uint64{2048, 34525}, true, []int{5}},
	{"ipv4_src", 32, 4, true, 5, []uint64{2048}, true, []int{5}},
	{"ipv4_dst", 32, 4, true, 5, []uint64{2048}, true, []int{5}},
	{"tcp_src", 16, 2, false, 10, []uint64{6}, true, []int{5, 10}},
	{"tcp_dst", 16, 2, false, 10, []uint64{6}, true, []int{5, 10}},
	{"udp_src", 16, 2, false, 10, []uint64{17}, true, []int{5, 10}},
	{"udp_dst", 16, 2, false, 10, []uint64{17}, true, []int{5, 10}},
	{"sctp_src", 16, 2, false, 10, []uint64{132}, true, []int{5, 10}},
	{"sctp_dst", 16, 2, false, 10, []uint64{132}, true, []int{5, 10}},
	{"icmpv4_type", 8, 1, false, 10, []uint64{1}, true, []int{5, 10}},
	{"icmpv4_code", 8, 1, false, 10, []uint64{1}, true, []int{5, 10}},
	{"arp_op", 16, 2, false, 5, []uint64{2054}, true, []int{5}},
	{"arp_spa", 32, 4, true, 5, []uint64{2054}, true, []int{5}},
	{"arp_tpa", 32, 4, true, 5, []uint64{2054}, true, []int{5}},
	{"arp_sha", 48, 6, true, 5, []uint64{2054}, true, []int{5}},
	{"arp_tha", 48, 6, true, 5, []uint64{2054}, true, []int{5}},
	{"ipv6_src", 128, 16, true, 5, []uint64{34525}, true, []int{5}},
	{"ipv6_dst", 128, 16, true, 5, []uint64{34525}, true, []int{5}},
	{"ipv6_flabel", 20, 4, true, 5, []uint64{34525}, true, []int{5}},
	{"icmpv6_type", 8, 1, false, 10, []uint64{58}, true, []int{5, 10}},
	{"icmpv6_code", 8, 1, false, 10, []uint64{58}, true, []int{5, 10}},
	{"ipv6_nd_target", 128, 16, false, 29, []uint64{135, 136}, true, []int{5, 10, 29}},
	{"ipv6_nd_sll", 48, 6, false, 29, []uint64{135}, true, []int{5, 10, 29}},
	{"ipv6_nd_tll", 48, 6, false, 29, []uint64{136}, true, []int{5, 10, 29}},
	{"mpls_label", 20, 4, false, 5, []uint64{34887, 34888}, true, []int{5}},
	{"mpls_tc", 3, 1, false, 5, []uint64{34887, 34888}, true, []int{5}},
	{"mpls_bos", 1, 1, false, 5, []uint64{34887, 34888}, true, []int{5}},
	{"pbb_isid", 24, 3, true, 5, []uint64{35047}, true, []int{5}},
	{"tunnel_id", 64, 8, true, none, nil, true, nil},
	{"ipv6_exthdr", 9, 2, true, 5, []uint64{34525}, false, []int{5}},
}

// far are numbers that are no field, beside the fields and at the edges of what an int holds and of what fewer bits hold; some, cut off, would be a field.
var far = []int{math.MinInt, math.MinInt + 5, math.MinInt32, -1<<32 + 5, -65536, -65531, -256, -251, -40, -39, -5, -2, -1,
	40, 41, 63, 64, 127, 128, 255, 256, 261, 65535, 65536, 65541, math.MaxInt32, math.MaxUint32, 1 << 32, 1<<32 + 5, 1<<56 + 5, math.MaxInt - 1, math.MaxInt}

// fits asks Fits whether bytes are a value of a field, and that it leaves them as they were.
func fits(t *testing.T, n int, value []byte, want bool) {
	t.Helper()
	was := slices.Clone(value)
	if ok := Fits(n, value); ok != want {
		t.Errorf("Fits of %d, %v: %v", n, value, ok)
	}
	if !slices.Equal(was, value) {
		t.Errorf("Fits of %d changed %v to %v", n, was, value)
	}
}

// isNone asks every call for no field.
func isNone(t *testing.T, n int) {
	t.Helper()
	if f, ok := Of(n); ok || f.Bits != 0 || f.Size != 0 || f.Masked || f.Need != 0 || f.Values != nil {
		t.Errorf("Of of %d: %v, %v", n, f, ok)
	}
	if s := Name(n); s != "" {
		t.Errorf("Name of %d: %q", n, s)
	}
	if Settable(n) {
		t.Errorf("Settable of %d", n)
	}
	if l := Needs(n); len(l) != 0 {
		t.Errorf("Needs of %d: %v", n, l)
	}
	for size := range 18 {
		fits(t, n, make([]byte, size), false)
	}
	fits(t, n, nil, false)
}

// notFound asks Find for no field.
func notFound(t *testing.T, s string) {
	t.Helper()
	if n, ok := Find(s); ok || n != 0 {
		t.Errorf("Find of %q: %d, %v", s, n, ok)
	}
}

// The chapter's examples.
func TestExamples(t *testing.T) {
	if l := Needs(31); !slices.Equal(l, []int{5, 10, 29}) {
		t.Errorf("Needs: %v", l)
	}
	fits(t, 7, []byte{8}, false)
	fits(t, 7, []byte{7}, true)
}

// FI1: each field with all that the chapter lists of it, its name, and the field of that name.
func TestOf(t *testing.T) {
	if len(listed) != api.Fields {
		t.Fatalf("%d fields are listed", len(listed))
	}
	for n, x := range listed {
		f, ok := Of(n)
		if !ok || f.Bits != x.bits || f.Size != x.size || f.Masked != x.masked || f.Need != x.need || !slices.Equal(f.Values, x.values) {
			t.Errorf("Of of %d: %v, %v; not %v", n, f, ok, x)
		}
		if s := Name(n); s != x.name {
			t.Errorf("Name of %d: %q, not %q", n, s, x.name)
		}
		if got, ok := Find(x.name); got != n || !ok {
			t.Errorf("Find of %q: %d, %v", x.name, got, ok)
		}
	}
}

// FI1, FI2, FI3: what is no field is none for each call.
func TestNoField(t *testing.T) {
	for _, n := range far {
		isNone(t, n)
	}
	for n := api.Fields; n < 1000; n++ {
		isNone(t, n)
		isNone(t, n-api.Fields-1000)
	}
}

// FI1: what differs from a name by a character, or writes it otherwise, is no name, unless it is another's.
func TestFindNearNames(t *testing.T) {
	named := map[string]bool{}
	for _, x := range listed {
		named[x.name] = true
	}
	for s := range named {
		near := []string{s + " ", " " + s, s + "\n", s + "\x00", "\x00" + s, strings.ToUpper(s), strings.ToUpper(s[:1]) + s[1:],
			strings.ReplaceAll(s, "_", "-"), strings.ReplaceAll(s, "_", " "), strings.ReplaceAll(s, "_", ""), s + "_" + s, s + s, s + ",", "\"" + s + "\""}
		for i := range s {
			near = append(near, s[:i], s[i:], s[:i]+s[i+1:])
			for _, c := range "0146 _ads\xff" {
				near = append(near, s[:i]+string(c)+s[i:], s[:i]+string(c)+s[i+1:])
			}
		}
		for _, x := range near {
			if !named[x] {
				notFound(t, x)
			}
		}
	}
}

// FI1: texts that are no names.
func TestFindOfNoName(t *testing.T) {
	for _, s := range []string{"", " ", "0", "5", "39", "-1", "_", "port", "in", "eth", "eth_typ", "eth_types", "ETH_TYPE", "ethtype", "oxm_eth_type",
		"nd_target", "ipv6_nd", "ip", "ipv4", "tcp", "tcp_flags", "pbb_uca", "act_set_output", "\xff", strings.Repeat("eth_type", 1000), strings.Repeat("_", 100000)} {
		notFound(t, s)
	}
}

// FI1: what is answered is new memory; who changes it changes no later answer.
func TestNewMemory(t *testing.T) {
	for n, x := range listed {
		f, _ := Of(n)
		for i := range f.Values {
			f.Values[i] = 7
		}
		_ = append(f.Values, 7)
		l := Needs(n)
		for i := range l {
			l[i] = 7
		}
		_ = append(l, 7)
		if again, _ := Of(n); !slices.Equal(again.Values, x.values) {
			t.Errorf("Of of %d: %v, not %v", n, again.Values, x.values)
		}
		if again := Needs(n); !slices.Equal(again, x.needs) {
			t.Errorf("Needs of %d: %v, not %v", n, again, x.needs)
		}
	}
}

// FI2: each bit alone, of each field's value in as many bytes as it has, fits just if it is one of its Bits, the lowest ones.
func TestFitsEachBit(t *testing.T) {
	for n, x := range listed {
		all := make([]byte, x.size)
		fits(t, n, all, true)
		for bit := range 8 * x.size {
			one := make([]byte, x.size)
			one[x.size-1-bit/8] = 1 << (bit % 8)
			fits(t, n, one, bit < x.bits)
			if bit < x.bits {
				all[x.size-1-bit/8] |= 1 << (bit % 8)
			}
		}
		fits(t, n, all, true)
		for bit := x.bits; bit < 8*x.size; bit++ {
			more := slices.Clone(all)
			more[x.size-1-bit/8] |= 1 << (bit % 8)
			fits(t, n, more, false)
		}
	}
}

// FI2: bytes fit only if there are just as many as the field's values have, whatever they are, and whatever lies behind them in memory.
func TestFitsSize(t *testing.T) {
	for n, x := range listed {
		for size := range 40 {
			room := slices.Repeat([]byte{255}, 64)
			value := room[:size]
			clear(value)
			fits(t, n, value, size == x.size)
			if size > 0 {
				value[size-1] = 1
			}
			fits(t, n, value, size == x.size)
		}
		fits(t, n, nil, false)
		fits(t, n, []byte{}, false)
		fits(t, n, make([]byte, 256+x.size), false)
		fits(t, n, make([]byte, 65536+x.size), false)
	}
}

// FI2: the edges of fields whose bits are no whole bytes, spelt out.
func TestFitsEdges(t *testing.T) {
	for _, x := range []struct {
		n     int
		value []byte
		want  bool
	}{
		{6, []byte{0x1f, 0xff}, true}, {6, []byte{0x20, 0}, false}, {6, []byte{0x80, 0}, false},
		{7, []byte{7}, true}, {7, []byte{8}, false}, {7, []byte{255}, false}, {7, []byte{0, 7}, false},
		{8, []byte{63}, true}, {8, []byte{64}, false}, {9, []byte{3}, true}, {9, []byte{4}, false}, {10, []byte{255}, true},
		{28, []byte{0, 0x0f, 0xff, 0xff}, true}, {28, []byte{0, 0x10, 0, 0}, false}, {28, []byte{1, 0, 0, 0}, false}, {28, []byte{15, 255, 255}, false},
		{34, []byte{0, 0x0f, 0xff, 0xff}, true}, {34, []byte{0, 0x10, 0, 0}, false}, {34, []byte{128, 0, 0, 0}, false}, {34, []byte{0, 0, 0}, false},
		{35, []byte{7}, true}, {35, []byte{8}, false}, {36, []byte{1}, true}, {36, []byte{2}, false},
		{37, []byte{255, 255, 255}, true}, {37, []byte{0, 255, 255, 255}, false},
		{39, []byte{1, 255}, true}, {39, []byte{2, 0}, false}, {39, []byte{255, 255}, false},
		{26, slices.Repeat([]byte{255}, 16), true}, {26, slices.Repeat([]byte{255}, 17), false}, {0, slices.Repeat([]byte{255}, 4), true},
	} {
		fits(t, x.n, x.value, x.want)
	}
}

// FI2: which fields an action may set.
func TestSettable(t *testing.T) {
	for n, x := range listed {
		if ok := Settable(n); ok != x.settable {
			t.Errorf("Settable of %d: %v", n, ok)
		}
	}
}

// FI3: all that each field asks for, from the one on that asks for nothing.
func TestNeeds(t *testing.T) {
	for n, x := range listed {
		if l := Needs(n); !slices.Equal(l, x.needs) {
			t.Errorf("Needs of %d: %v, not %v", n, l, x.needs)
		}
	}
}

// FI3: Needs are what following Need from field to field tells, backwards.
func TestNeedsFollowNeed(t *testing.T) {
	for n := range api.Fields {
		var want []int
		for f, _ := Of(n); f.Need != none; f, _ = Of(f.Need) {
			want = slices.Insert(want, 0, f.Need)
		}
		if l := Needs(n); !slices.Equal(l, want) {
			t.Errorf("Needs of %d: %v, not %v", n, l, want)
		}
	}
}

// FI4: what a field asks for has a lower number, and has each value that is asked of it.
func TestNeedIsLower(t *testing.T) {
	for n := range api.Fields {
		f, _ := Of(n)
		if f.Need < none || f.Need >= n {
			t.Errorf("%d asks for %d", n, f.Need)
		}
		for _, v := range f.Values {
			asked, ok := Of(f.Need)
			value := make([]byte, 8)
			new(big.Int).SetUint64(v).FillBytes(value)
			if !ok || asked.Size > 8 || !Fits(f.Need, value[8-asked.Size:]) {
				t.Errorf("%d asks for %d of %d", n, v, f.Need)
			}
		}
		if l := Needs(n); !slices.IsSorted(l) || slices.Contains(l, n) {
			t.Errorf("Needs of %d: %v", n, l)
		}
	}
}

// FI4: names lead back, and no two fields have one name.
func TestNamesLeadBack(t *testing.T) {
	for n := range api.Fields {
		if got, ok := Find(Name(n)); got != n || !ok {
			t.Errorf("Find of %q: %d, %v", Name(n), got, ok)
		}
	}
}

// FI2: whatever the bytes, they fit just if, as a number, they have room in so many bits.
func FuzzFits(f *testing.F) {
	f.Add(7, []byte{8})
	f.Add(6, []byte{31, 255})
	f.Add(28, []byte{0, 15, 255, 255})
	f.Add(40, []byte{})
	f.Fuzz(func(t *testing.T, n int, value []byte) {
		want := n >= 0 && n < len(listed) && len(value) == listed[n].size && new(big.Int).SetBytes(value).BitLen() <= listed[n].bits
		fits(t, n, value, want)
	})
}

// FI1: whatever the text, it is found just if it is a field's name.
func FuzzFind(f *testing.F) {
	for _, s := range []string{"in_port", "eth_type", "eth-type", "", "ipv6_exthdr "} {
		f.Add(s)
	}
	names := map[string]int{}
	for n, x := range listed {
		names[x.name] = n
	}
	f.Fuzz(func(t *testing.T, s string) {
		want, named := names[s]
		if n, ok := Find(s); n != want || ok != named {
			t.Errorf("Find of %q: %d, %v", s, n, ok)
		}
	})
}
