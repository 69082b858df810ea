package fault

import (
	"math"
	"strconv"
	"strings"
	"testing"

	"gunwale/api"
)

// listed are the types as the chapter lists them, each with how many codes it has.
var listed = []struct {
	name  string
	codes int
}{
	{"hello", 2}, {"request", 14}, {"action", 16}, {"instruction", 10}, {"match", 12}, {"flow", 8}, {"group", 15},
	{"port", 5}, {"table", 3}, {"queue", 3}, {"config", 3}, {"role", 3}, {"meter", 12}, {"features", 6},
}

// far are numbers that are no type and no code, at the edges of what an int holds and of what fewer bits hold.
var far = []int{math.MinInt, math.MinInt + 1, math.MinInt32, -65536, -257, -256, -255, -14, -2, -1,
	16, 17, 40, 41, 255, 256, 257, 10000, 65535, 65536, 1 << 32, 1<<32 + 1, 1 << 55, 1 << 56, 1<<56 + 1, math.MaxInt32, math.MaxInt - 1, math.MaxInt}

// telling is an error with all that the chapter tells of it.
type telling struct {
	t, code int
	paired  bool
	name    string
}

// all is what the chapter tells of each error that has a name.
func all() map[api.Errno]telling {
	m := map[api.Errno]telling{0: {name: "ok"}, 10337: {name: "own 337"}}
	for n := 1; n <= 8; n++ {
		m[api.Errno(10000+n)] = telling{name: "own " + strconv.Itoa(n)}
	}
	for t, x := range listed {
		for code := range x.codes {
			m[api.Errno(256*t+code+1)] = telling{t, code, true, x.name + " " + strconv.Itoa(code)}
		}
	}
	return m
}

// told holds all that is told of an error against what is wanted.
func told(t *testing.T, e api.Errno, want telling) {
	t.Helper()
	if kind, code, ok := Pair(e); kind != want.t || code != want.code || ok != want.paired {
		t.Errorf("Pair of %d: %d, %d, %v; not %v", e, kind, code, ok, want)
	}
	if s := Name(e); s != want.name {
		t.Errorf("Name of %d: %q, not %q", e, s, want.name)
	}
}

// notMade asks Make for no error.
func notMade(t *testing.T, kind, code int) {
	t.Helper()
	if e, ok := Make(kind, code); ok || e != 0 {
		t.Errorf("Make of %d, %d: %d, %v", kind, code, e, ok)
	}
}

// notRead asks Read for no error.
func notRead(t *testing.T, s string) {
	t.Helper()
	if e, ok := Read(s); ok || e != 0 {
		t.Errorf("Read of %q: %d, %v", s, e, ok)
	}
}

// The chapter's example.
func TestExample(t *testing.T) {
	if e, ok := Make(2, 13); e != 526 || !ok {
		t.Errorf("Make: %d, %v", e, ok)
	}
	told(t, 526, telling{2, 13, true, "action 13"})
	if e, ok := Read("action 13"); e != 526 || !ok {
		t.Errorf("Read: %d, %v", e, ok)
	}
}

// FA1: how many codes each type has.
func TestCodes(t *testing.T) {
	for kind, x := range listed {
		if n := Codes(kind); n != x.codes {
			t.Errorf("Codes of %d: %d, not %d", kind, n, x.codes)
		}
	}
}

// FA1: what is no type has no codes.
func TestCodesOfNoType(t *testing.T) {
	for kind := len(listed); kind < 1000; kind++ {
		if n := Codes(kind); n != 0 {
			t.Errorf("Codes of %d: %d", kind, n)
		}
	}
	for _, kind := range far {
		if n := Codes(kind); n != 0 {
			t.Errorf("Codes of %d: %d", kind, n)
		}
	}
}

// FA1: the error of each type and each code, up to the last one that it has, and none beyond.
func TestMake(t *testing.T) {
	for kind, x := range listed {
		for code := range x.codes {
			if e, ok := Make(kind, code); !ok || e != api.Errno(256*kind+code+1) {
				t.Errorf("Make of %d, %d: %d, %v", kind, code, e, ok)
			}
		}
		for code := x.codes; code < 1000; code++ {
			notMade(t, kind, code)
		}
		for _, code := range far {
			notMade(t, kind, code)
		}
	}
}

// FA1: what is no type has no error, of whatever code; nor is a code that is too great one of the next type.
func TestMakeOfNoType(t *testing.T) {
	for _, kind := range append(far, 14, 15) {
		for _, code := range append(far, 0, 1, 2, 13, 14, 15) {
			notMade(t, kind, code)
		}
	}
	notMade(t, 0, 256)
	notMade(t, 1, -256)
	notMade(t, -1, 256)
	// 256 times such a type, cut off at 64 bits, would be 256 times the type 1.
	notMade(t, 1<<56+1, 0)
}

// FA1, FA2: of each number far beyond all errors, on both sides, just what the chapter tells.
func TestEachNumber(t *testing.T) {
	m := all()
	for e := api.Errno(-70000); e <= 70000; e++ {
		told(t, e, m[e])
	}
	for _, n := range []api.Errno{math.MinInt, math.MinInt + 1, math.MinInt + 526, math.MinInt32, -1 << 32, 1 << 32, 1<<32 + 1, 1<<32 + 526, math.MaxInt32, math.MaxInt - 1, math.MaxInt} {
		told(t, n, telling{})
	}
}

// FA1, FA2: the edges, spelt out.
func TestEdges(t *testing.T) {
	for e, want := range map[api.Errno]telling{
		-1: {}, 0: {name: "ok"},
		1: {0, 0, true, "hello 0"}, 2: {0, 1, true, "hello 1"}, 3: {}, 256: {},
		257: {1, 0, true, "request 0"}, 270: {1, 13, true, "request 13"}, 271: {}, 512: {},
		513: {2, 0, true, "action 0"}, 528: {2, 15, true, "action 15"}, 529: {},
		769: {3, 0, true, "instruction 0"}, 778: {3, 9, true, "instruction 9"}, 779: {},
		1025: {4, 0, true, "match 0"}, 1036: {4, 11, true, "match 11"}, 1037: {},
		1281: {5, 0, true, "flow 0"}, 1288: {5, 7, true, "flow 7"}, 1289: {},
		1537: {6, 0, true, "group 0"}, 1551: {6, 14, true, "group 14"}, 1552: {},
		1793: {7, 0, true, "port 0"}, 1797: {7, 4, true, "port 4"}, 1798: {},
		2049: {8, 0, true, "table 0"}, 2051: {8, 2, true, "table 2"}, 2052: {},
		2305: {9, 0, true, "queue 0"}, 2307: {9, 2, true, "queue 2"}, 2308: {},
		2561: {10, 0, true, "config 0"}, 2563: {10, 2, true, "config 2"}, 2564: {},
		2817: {11, 0, true, "role 0"}, 2819: {11, 2, true, "role 2"}, 2820: {},
		3073: {12, 0, true, "meter 0"}, 3084: {12, 11, true, "meter 11"}, 3085: {},
		3329: {13, 0, true, "features 0"}, 3334: {13, 5, true, "features 5"}, 3335: {}, 3584: {}, 3585: {},
		10000: {}, 10001: {name: "own 1"}, 10008: {name: "own 8"}, 10009: {}, 10336: {}, 10337: {name: "own 337"}, 10338: {},
	} {
		told(t, e, want)
	}
}

// FA1: errors by the names that they have in package api.
func TestErrorsOfAPI(t *testing.T) {
	for e, name := range map[api.Errno]string{
		api.OK: "ok", api.HelloNone: "hello 0", api.BadVersion: "request 0", api.TooManyParts: "request 13",
		api.SetArg: "action 15", api.InsTwice: "instruction 9", api.MatchTwice: "match 10", api.FlowFlags: "flow 7",
		api.GroupBucket: "group 12", api.PortConfig: "port 2", api.TableConfig: "table 1", api.ConfigFlags: "config 0",
		api.RoleBad: "role 2", api.MeterBand: "meter 8", api.FeatArg: "features 4",
		api.ErrArg: "own 1", api.ErrShort: "own 2", api.ErrLong: "own 3", api.ErrNone: "own 4", api.ErrThere: "own 5",
		api.ErrFull: "own 6", api.ErrState: "own 7", api.ErrClosed: "own 8", api.ErrScript: "own 337",
	} {
		if s := Name(e); s != name {
			t.Errorf("Name of %d: %q, not %q", e, s, name)
		}
		if got, ok := Read(name); got != e || !ok {
			t.Errorf("Read of %q: %d, %v", name, got, ok)
		}
	}
}

// FA2: each name is read as the error that has it.
func TestRead(t *testing.T) {
	for e, x := range all() {
		if got, ok := Read(x.name); got != e || !ok {
			t.Errorf("Read of %q: %d, %v", x.name, got, ok)
		}
	}
}

// FA2: what differs from a name by a character, or writes it otherwise, is no name, unless it is another's.
func TestReadNearNames(t *testing.T) {
	named := map[string]bool{}
	for _, x := range all() {
		named[x.name] = true
	}
	for s := range named {
		word, digits, _ := strings.Cut(s, " ")
		near := []string{
			s + " ", " " + s, s + "\n", s + "\x00", s + ".0", s + "_0", s + "e0", strings.ToUpper(s), strings.ToUpper(s[:1]) + s[1:],
			word, word + " ", word + digits, word + "  " + digits, word + "\t" + digits, word + "\u00a0" + digits, word + "\n" + digits,
			word + " 0" + digits, word + " 00" + digits, word + " +" + digits, word + " -" + digits, word + " 0x" + digits, word + " 0_" + digits,
			word + " " + digits + " 0", digits + " " + word, digits, s + " " + s,
		}
		for i := range s {
			near = append(near, s[:i], s[:i]+s[i+1:])
			for _, c := range "0 a9-" {
				near = append(near, s[:i]+string(c)+s[i:], s[:i]+string(c)+s[i+1:])
			}
		}
		for _, x := range near {
			if !named[x] {
				notRead(t, x)
			}
		}
	}
}

// FA2: texts that are no names.
func TestReadOfNoName(t *testing.T) {
	for _, s := range []string{
		"", " ", "  ", "0", "1", " 0", "526", "ok 0", "ok0", "OK", "o", "okay", "own", "own ", "own 0", "own 9", "own 10", "own -1", "own -9474",
		"own 336", "own 338", "own 01", "own +1", "own 10001", "own 10337", "own 18446744073709541642", "own 9223372036854775807",
		"own 9223372036854775808", "own -9223372036854775808", "own -10000", "own -9999",
		"hello 2", "request 14", "action 16", "instruction 10", "match 12", "flow 8", "group 15", "port 5", "table 3", "queue 3", "config 3", "role 3",
		"meter 12", "features 6", "action -1", "action -0", "action 256", "action -256", "action 18446744073709551615", "action 9223372036854775807",
		"action 18446744073709551629", "action 13 ", "action\u066013", "action \u0661\u0663", "action 1\xff", "\xff 1", "feature 0", "matches 0", "error 1", "experimenter 0",
		strings.Repeat("action ", 1000), "action " + strings.Repeat("0", 100000) + "1", "action " + strings.Repeat("9", 100000),
	} {
		notRead(t, s)
	}
}

// FA3: unlike errors have unlike names, and each pair leads to one error, and back.
func TestThereAndBack(t *testing.T) {
	owner := map[string]api.Errno{}
	for e := api.Errno(-1000); e <= 12000; e++ {
		s := Name(e)
		if s == "" {
			continue
		}
		if x, there := owner[s]; there {
			t.Errorf("%d and %d are both %q", x, e, s)
		}
		owner[s] = e
		if got, ok := Read(s); got != e || !ok {
			t.Errorf("Read of %q: %d, %v; not %d", s, got, ok, e)
		}
	}
	if len(owner) != 122 {
		t.Errorf("%d errors have names", len(owner))
	}
	made := map[api.Errno]bool{}
	for kind := -20; kind < 300; kind++ {
		for code := -300; code < 600; code++ {
			e, ok := Make(kind, code)
			if !ok {
				continue
			}
			if made[e] {
				t.Errorf("%d is made twice", e)
			}
			made[e] = true
			if k, c, ok := Pair(e); k != kind || c != code || !ok {
				t.Errorf("Pair of %d: %d, %d, %v; not %d, %d", e, k, c, ok, kind, code)
			}
		}
	}
	if len(made) != 112 {
		t.Errorf("%d errors are made", len(made))
	}
}

// FA2, FA3: whatever the text is, it is the name of just the error that is read.
func FuzzRead(f *testing.F) {
	for _, s := range []string{"ok", "own 337", "action 13", "action 013", "own +1", "hello 2", ""} {
		f.Add(s)
	}
	names := map[string]api.Errno{}
	for e, x := range all() {
		names[x.name] = e
	}
	f.Fuzz(func(t *testing.T, s string) {
		want, named := names[s]
		if e, ok := Read(s); e != want || ok != named {
			t.Errorf("Read of %q: %d, %v", s, e, ok)
		}
	})
}
