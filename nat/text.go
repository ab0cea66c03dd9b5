package nat

import (
	"slices"
	"strconv"
	"strings"

	"tallage/api"
	"tallage/limb"
)

const (
	bigBase   = 1_000_000_000
	bigPlaces = 9
	// Each big digit holds at least as many binary ones.
	bigBits     = 29
	blockLen    = (api.MaxLong + bigPlaces - 1) / bigPlaces
	blockPlaces = blockLen * bigPlaces
)

// bigDigits are digits to the base of 10 to the 9, the least first: as many as are needed for all that is parsed.
type bigDigits [blockLen]uint32

// Parse reads a number.
func Parse(s string) ([]uint32, api.Errno) {
	if !written(s) {
		return nil, api.ErrNumber
	}
	if len(s) > api.MaxLong {
		return nil, api.ErrLimit
	}
	d, n := digitsOf(s)
	var a []uint32
	for n > 0 {
		n--
		a = limb.Add(limb.MulSmall(a, bigBase), []uint32{d[n]})
	}
	return a, api.OK
}

// Put is a, written.
func Put(a []uint32) string {
	if limb.Bits(a) <= bigBits*blockLen {
		return putBlock(a)
	}
	base, _ := Pow(bigBase, blockLen)
	var blocks []string
	for limb.Cmp(a, base) >= 0 {
		q, r, _ := DivMod(a, base)
		text := putBlock(r)
		blocks = append(blocks, strings.Repeat("0", blockPlaces-len(text))+text)
		a = q
	}
	blocks = append(blocks, putBlock(a))
	slices.Reverse(blocks)
	return strings.Join(blocks, "")
}

// written tells whether s is a number's writing, of any length.
func written(s string) bool {
	if s == "" || s[0] == '0' && len(s) > 1 {
		return false
	}
	for i := range len(s) {
		if s[i] < '0' || s[i] > '9' {
			return false
		}
	}
	return true
}

// digitsOf are the big digits of a number's writing of at most MaxLong digits, and how many they are.
func digitsOf(s string) (d bigDigits, n int) {
	for len(s) > 0 {
		cut := max(len(s)-bigPlaces, 0)
		x, _ := strconv.ParseUint(s[cut:], 10, limbBits)
		d[n] = uint32(x)
		n++
		s = s[:cut]
	}
	return d, n
}

// putBlock is a, written; it must not need more than the array's big digits.
func putBlock(a []uint32) string {
	var d bigDigits
	n := 0
	for a = limb.Trim(a); len(a) > 0; n++ {
		a, d[n], _ = limb.DivSmall(a, bigBase)
	}
	if n == 0 {
		return "0"
	}
	text := strconv.AppendUint(nil, uint64(d[n-1]), 10)
	for i := n - 2; i >= 0; i-- {
		low := strconv.FormatUint(uint64(d[i]), 10)
		text = append(text, strings.Repeat("0", bigPlaces-len(low))...)
		text = append(text, low...)
	}
	return string(text)
}
