package row

import (
	"math"
	"slices"
	"testing"
)

// times is a row of one width, so many times.
func times(width, n int) []int { return slices.Repeat([]int{width}, n) }

// all tells each byte of a list of n bytes as x.
func all(x byte, n int) []byte { return slices.Repeat([]byte{x}, n) }

// most is the greatest number that has room in so many bytes.
func most(width int) uint64 { return math.MaxUint64 >> (64 - 8*width) }

// noRows are widths that are no row.
var noRows = [][]int{
	{0}, {9}, {-65}, {64}, {65}, {math.MaxInt}, {math.MinInt}, {math.MinInt + 1},
	{2, 0}, {0, 2}, {1, 9, 1}, {-1, -65, 1}, {8, 8, 8, 8, 0},
	times(1, 65), times(-1, 65), times(8, 65), times(1, 1000),
	append(times(1, 63), 0), append(times(1, 64), 0), append(times(1, 64), -1),
}

// RO1: every width alone, and each of its neighbours that is none.
func TestRightOfOneWidth(t *testing.T) {
	for n := -200; n <= 200; n++ {
		want := n >= 1 && n <= 8 || n >= -64 && n <= -1
		if got := Right([]int{n}); got != want {
			t.Errorf("Right of %d: %v", n, got)
		}
		size, count := 0, 0
		if want && n > 0 {
			size, count = n, 1
		} else if want {
			size = -n
		}
		if Size(n) != size || Count(n) != count {
			t.Errorf("of %d: Size %d, Count %d", n, Size(n), Count(n))
		}
	}
}

// RO1: rows, how many bytes and numbers they have.
func TestRows(t *testing.T) {
	for _, c := range []struct {
		w           []int
		size, count int
	}{
		{nil, 0, 0},
		{[]int{}, 0, 0},
		{[]int{2, -1, 1}, 4, 2},
		{[]int{-1}, 1, 0},
		{[]int{-64, -64}, 128, 0},
		{[]int{1, 2, 3, 4, 5, 6, 7, 8}, 36, 8},
		{[]int{8, -64, 8}, 80, 2},
		{times(8, 64), 512, 64},
		{times(-64, 64), 4096, 0},
		{times(1, 64), 64, 64},
		{times(1, 63), 63, 63},
	} {
		if !Right(c.w) {
			t.Errorf("%v is no row", c.w)
		}
		if n := Size(c.w...); n != c.size {
			t.Errorf("Size of %v: %d", c.w, n)
		}
		if n := Count(c.w...); n != c.count {
			t.Errorf("Count of %v: %d", c.w, n)
		}
	}
	if Size() != 0 || Count() != 0 {
		t.Errorf("without widths: Size %d, Count %d", Size(), Count())
	}
}

// RO1, RO2, RO3: of what is no row there is nothing, whatever else is handed in.
func TestNoRows(t *testing.T) {
	for _, w := range noRows {
		if Right(w) {
			t.Errorf("%v is a row", w)
		}
		if Size(w...) != 0 || Count(w...) != 0 {
			t.Errorf("of %v: Size %d, Count %d", w, Size(w...), Count(w...))
		}
		for n := range 70 {
			if b, ok := Put(w, make([]uint64, n)); ok || b != nil {
				t.Errorf("Put by %v of %d numbers: %v, %v", w, n, b, ok)
			}
			if nums, what := Get(w, make([]byte, n)); what != Odd || nums != nil {
				t.Errorf("Get by %v of %d bytes: %v, %d", w, n, nums, what)
			}
		}
		if nums, what := Get(w, nil); what != Odd || nums != nil {
			t.Errorf("Get by %v of nothing: %v, %d", w, nums, what)
		}
		if nums, what := Get(w, all(255, 5000)); what != Odd || nums != nil {
			t.Errorf("Get by %v of many bytes: %v, %d", w, nums, what)
		}
	}
}

// RO2: the bytes of ordinary rows, the highest byte of each number first.
func TestPut(t *testing.T) {
	for _, c := range []struct {
		w    []int
		nums []uint64
		want []byte
	}{
		{[]int{2, -1, 1}, []uint64{258, 3}, []byte{1, 2, 0, 3}},
		{nil, nil, nil},
		{[]int{}, []uint64{}, nil},
		{[]int{-3}, nil, []byte{0, 0, 0}},
		{[]int{1}, []uint64{0}, []byte{0}},
		{[]int{8}, []uint64{0x0102030405060708}, []byte{1, 2, 3, 4, 5, 6, 7, 8}},
		{[]int{3, 5}, []uint64{0x010203, 0x0405060708}, []byte{1, 2, 3, 4, 5, 6, 7, 8}},
		{[]int{4, 6, 7}, []uint64{9, 9, 9}, []byte{0, 0, 0, 9, 0, 0, 0, 0, 0, 9, 0, 0, 0, 0, 0, 0, 9}},
		{[]int{-2, 1, -2, 1, -1}, []uint64{7, 8}, []byte{0, 0, 7, 0, 0, 8, 0}},
		{times(-64, 64), nil, all(0, 4096)},
		{times(8, 64), slices.Repeat([]uint64{math.MaxUint64}, 64), all(255, 512)},
	} {
		if b, ok := Put(c.w, c.nums); !ok || !slices.Equal(b, c.want) {
			t.Errorf("Put by %v of %v: %v, %v", c.w, c.nums, b, ok)
		}
	}
}

// RO2: the greatest number of each width has room; one more has not, wherever it stands.
func TestPutRoom(t *testing.T) {
	for n := 1; n <= 8; n++ {
		if b, ok := Put([]int{n}, []uint64{most(n)}); !ok || !slices.Equal(b, all(255, n)) {
			t.Errorf("the greatest of %d bytes: %v, %v", n, b, ok)
		}
		if n == 8 {
			continue
		}
		for _, x := range []uint64{most(n) + 1, most(n) + 2, 1 << 63, math.MaxUint64} {
			for at := range 3 {
				nums := []uint64{0, 0, 0}
				nums[at] = x
				if b, ok := Put(times(n, 3), nums); ok || b != nil {
					t.Errorf("%d in %d bytes, at %d: %v, %v", x, n, at, b, ok)
				}
			}
		}
	}
}

// RO2: fewer numbers, or more, than the row has.
func TestPutCount(t *testing.T) {
	for _, w := range [][]int{nil, {-1}, {2, -1, 1}, {8}, times(1, 64), times(-64, 64)} {
		for n := range 70 {
			b, ok := Put(w, make([]uint64, n))
			want := n == Count(w...)
			if ok != want || !ok && b != nil || ok && len(b) != Size(w...) {
				t.Errorf("by %v, of %d numbers: %v, %v", w, n, b, ok)
			}
		}
	}
}

// RO3: what comes of bytes; of several faults the first width's is told, and of one width Short ahead of Odd.
func TestGet(t *testing.T) {
	for _, c := range []struct {
		w    []int
		b    []byte
		want []uint64
		what int
	}{
		{[]int{2, -1, 1}, []byte{1, 2, 0, 3}, []uint64{258, 3}, Fine},
		{[]int{2, -1, 1}, []byte{1, 2, 0, 3, 4, 5}, []uint64{258, 3}, Fine},
		{[]int{2, -1, 1}, []byte{1, 2, 0}, nil, Short},
		{[]int{2, -1, 1}, []byte{1, 2}, nil, Short},
		{[]int{2, -1, 1}, []byte{1}, nil, Short},
		{[]int{2, -1, 1}, nil, nil, Short},
		{[]int{2, -1, 1}, []byte{1, 2, 1, 3}, nil, Odd},
		{[]int{2, -1, 1}, []byte{1, 2, 255}, nil, Odd},
		{[]int{-1, 1, 1}, []byte{9}, nil, Odd},
		{[]int{4, -1}, []byte{0, 0, 9}, nil, Short},
		{[]int{-2, 1}, []byte{0, 9}, nil, Odd},
		{[]int{-2, 1}, []byte{9, 0, 1}, nil, Odd},
		{[]int{-3}, []byte{9}, nil, Short},
		{[]int{-3}, []byte{0, 9}, nil, Short},
		{[]int{-1, -3}, []byte{0, 9, 9}, nil, Short},
		{[]int{-1, -3}, []byte{1, 9, 9}, nil, Odd},
		{[]int{-3}, []byte{0, 0, 0, 9}, nil, Fine},
		{[]int{-3}, []byte{0, 0, 9}, nil, Odd},
		{nil, nil, nil, Fine},
		{nil, []byte{1, 2}, nil, Fine},
		{[]int{8}, []byte{1, 2, 3, 4, 5, 6, 7, 8}, []uint64{0x0102030405060708}, Fine},
		{[]int{8, 8}, all(255, 16), []uint64{math.MaxUint64, math.MaxUint64}, Fine},
		{times(-64, 64), all(0, 4096), nil, Fine},
		{times(-64, 64), all(0, 4095), nil, Short},
		{times(-64, 64), append(all(0, 4095), 1), nil, Odd},
		{times(1, 64), all(3, 64), slices.Repeat([]uint64{3}, 64), Fine},
		{times(1, 64), all(3, 63), nil, Short},
	} {
		if nums, what := Get(c.w, c.b); what != c.what || !slices.Equal(nums, c.want) {
			t.Errorf("Get by %v of %v: %v, %d", c.w, c.b, nums, what)
		}
	}
}

// RO3: any one byte that must be 0, and any one bit of it.
func TestGetZeros(t *testing.T) {
	for n := 1; n <= 64; n++ {
		for at := range n {
			b := append([]byte{7}, make([]byte, n)...)
			b[1+at] = 1 << (at % 8)
			if nums, what := Get([]int{1, -n}, b); what != Odd || nums != nil {
				t.Errorf("%d zeros, byte %d set: %v, %d", n, at, nums, what)
			}
		}
	}
}

// RO3: what lies behind a list's length is not read.
func TestGetKeepsToLength(t *testing.T) {
	b := []byte{1, 2, 0, 3}
	if nums, what := Get([]int{2, -1, 1}, b[:3]); what != Short || nums != nil {
		t.Errorf("of 3 bytes: %v, %d", nums, what)
	}
	w := []int{1, 1, 0}
	if nums, what := Get(w[:2], b); what != Fine || !slices.Equal(nums, []uint64{1, 2}) {
		t.Errorf("by 2 widths: %v, %d", nums, what)
	}
}

// RO4: both ways round, by rows of every shape that three widths make.
func TestThereAndBack(t *testing.T) {
	widths := []int{1, 2, 3, 4, 5, 6, 7, 8, -1, -2, -7, -64}
	seed := uint64(1)
	for _, x := range widths {
		for _, y := range widths {
			for _, z := range widths {
				w := []int{x, y, z}
				var nums []uint64
				for _, n := range w {
					if n > 0 {
						seed = seed*6364136223846793005 + 1442695040888963407
						nums = append(nums, seed&most(n))
					}
				}
				thereAndBack(t, w, nums)
			}
		}
	}
}

func thereAndBack(t *testing.T, w []int, nums []uint64) {
	b, ok := Put(w, nums)
	if !ok || len(b) != Size(w...) {
		t.Fatalf("Put by %v of %v: %v, %v", w, nums, b, ok)
	}
	back, what := Get(w, b)
	if what != Fine || !slices.Equal(back, nums) {
		t.Errorf("by %v, of %v: %v, %d", w, nums, back, what)
	}
	if again, ok := Put(w, back); !ok || !slices.Equal(again, b) {
		t.Errorf("by %v, of %v: %v, %v", w, b, again, ok)
	}
}

// Rule 5: what is handed in stays, and what is answered is new memory.
func TestMemory(t *testing.T) {
	w, nums := []int{2, -1, 1}, []uint64{258, 3}
	first, _ := Put(w, nums)
	second, _ := Put(w, nums)
	first[0] = 99
	if !slices.Equal(second, []byte{1, 2, 0, 3}) {
		t.Errorf("two answers of Put share memory: %v", second)
	}
	b := []byte{1, 2, 0, 3}
	got, _ := Get(w, b)
	got[0] = 99
	if other, _ := Get(w, b); !slices.Equal(other, []uint64{258, 3}) {
		t.Errorf("two answers of Get share memory: %v", other)
	}
	if !slices.Equal(w, []int{2, -1, 1}) || !slices.Equal(nums, []uint64{258, 3}) || !slices.Equal(b, []byte{1, 2, 0, 3}) {
		t.Errorf("what was handed in has changed: %v, %v, %v", w, nums, b)
	}
}

// RO1 to RO4 together, at any widths and bytes: what is got, put again, is those bytes.
func FuzzGetPut(f *testing.F) {
	f.Add([]byte{2, 255, 1}, []byte{1, 2, 0, 3})
	f.Add([]byte{8, 0}, []byte{1})
	f.Add([]byte{192, 191}, []byte{})
	f.Fuzz(func(t *testing.T, widths, b []byte) {
		w := make([]int, len(widths))
		for i, x := range widths {
			w[i] = int(int8(x))
		}
		nums, what := Get(w, b)
		if what != Fine {
			if nums != nil || what != Short && what != Odd || what == Short && !Right(w) {
				t.Errorf("Get by %v of %v: %v, %d", w, b, nums, what)
			}
			return
		}
		if !Right(w) || len(nums) != Count(w...) || len(b) < Size(w...) {
			t.Fatalf("Get by %v of %v: %v", w, b, nums)
		}
		if again, ok := Put(w, nums); !ok || !slices.Equal(again, b[:Size(w...)]) {
			t.Errorf("by %v, of %v: %v, %v", w, b, again, ok)
		}
	})
}
