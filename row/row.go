// Package row is layer 1: fixed rows of numbers as bytes: see shared/doc/01-row.md.
package row

// What comes of bytes that are read by a row.
const (
	Fine  = 0
	Short = 1
	Odd   = 2
)

const (
	mostWidths = 64
	mostBytes  = 8
	mostZeros  = 64
)

// Right tells whether widths are a row.
func Right(w []int) bool {
	if len(w) > mostWidths {
		return false
	}
	for i := range len(w) {
		if !isWidth(w[i]) {
			return false
		}
	}
	return true
}

func isWidth(n int) bool {
	return isNumber(n) && n <= mostBytes || isZeros(n) && n >= -mostZeros
}

func isNumber(width int) bool { return width > 0 }

func isZeros(width int) bool { return width < 0 }

// Size tells how many bytes a row has.
func Size(w ...int) int {
	if !Right(w) {
		return 0
	}
	size := 0
	for i := range len(w) {
		size += bytesOf(w[i])
	}
	return size
}

func bytesOf(width int) int {
	if isZeros(width) {
		return -width
	}
	return width
}

// Count tells how many numbers it has.
func Count(w ...int) int {
	if !Right(w) {
		return 0
	}
	count := 0
	for i := range len(w) {
		if isNumber(w[i]) {
			count++
		}
	}
	return count
}

// Put tells numbers as a row's bytes.
func Put(w []int, nums []uint64) ([]byte, bool) {
	if !Right(w) || len(nums) != Count(w...) {
		return nil, false
	}
	out := make([]byte, 0, Size(w...))
	for i := range len(w) {
		if isZeros(w[i]) {
			out = append(out, make([]byte, bytesOf(w[i]))...)
			continue
		}
		if !hasRoom(nums[0], w[i]) {
			return nil, false
		}
		out = appendNumber(out, nums[0], w[i])
		nums = nums[1:]
	}
	return out, true
}

func hasRoom(n uint64, width int) bool {
	// A shift by all 64 bits leaves 0: any number has room in 8 bytes.
	return n>>(8*width) == 0
}

func appendNumber(out []byte, n uint64, width int) []byte {
	for i := range width {
		out = append(out, byte(n>>(8*(width-1-i))))
	}
	return out
}

// Get tells the numbers of a row's bytes, and what came of it.
func Get(w []int, b []byte) ([]uint64, int) {
	if !Right(w) {
		return nil, Odd
	}
	nums := make([]uint64, 0, Count(w...))
	for i := range len(w) {
		n := bytesOf(w[i])
		if len(b) < n {
			return nil, Short
		}
		if isNumber(w[i]) {
			nums = append(nums, number(b[:n]))
		} else if !allZero(b[:n]) {
			return nil, Odd
		}
		b = b[n:]
	}
	return nums, Fine
}

func number(b []byte) uint64 {
	n := uint64(0)
	for _, x := range b {
		n = n<<8 | uint64(x)
	}
	return n
}

func allZero(b []byte) bool {
	for _, x := range b {
		if x != 0 {
			return false
		}
	}
	return true
}
