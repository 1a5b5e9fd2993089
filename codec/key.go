package codec

import (
	"math"
	"strconv"
	"strings"

	"tiller/api"
)

// partDigits is how many digits of base 16 a key gives to each part of an ID.
const partDigits = 14

// parts takes an ID apart; false of one that is not right.
func parts(id api.ID) (re, im int, right bool) {
	if !isPart(real(id)) || !isPart(imag(id)) {
		return 0, 0, false
	}
	return int(real(id)), int(imag(id)), true
}

// isPart says whether a number may be a part of an ID. It asks for what must hold, since a comparison with no number at all is false; and for the sign, since -0 is no less than 0.
func isPart(v float64) bool {
	return v >= 0 && v <= api.MaxNumber && v == math.Trunc(v) && !math.Signbit(v)
}

// whole puts an ID together.
func whole(re, im int) api.ID {
	return api.ID(complex(float64(re), float64(im)))
}

// IDKey writes an ID so that texts stand in the order of IDs.
func IDKey(id api.ID) string {
	re, im, right := parts(id)
	if !right {
		return ""
	}
	return partKey(re) + partKey(im)
}

func partKey(part int) string {
	digits := strconv.FormatInt(int64(part), 16)
	return strings.Repeat("0", partDigits-len(digits)) + digits
}

// ReadKey reads what IDKey wrote.
func ReadKey(s string) (api.ID, api.Errno) {
	if len(s) != 2*partDigits {
		return 0, api.ErrForm
	}
	re, reRight := readPart(s[:partDigits])
	im, imRight := readPart(s[partDigits:])
	if !reRight || !imRight {
		return 0, api.ErrForm
	}
	return whole(re, im), api.OK
}

func readPart(s string) (int, bool) {
	part := 0
	for i := range len(s) {
		digit := strings.IndexByte("0123456789abcdef", s[i])
		if digit < 0 {
			return 0, false
		}
		part = part<<4 | digit
	}
	return part, part <= api.MaxNumber
}

// Less tells the order of IDs.
func Less(a, b api.ID) bool {
	aRe, aIm, aRight := parts(a)
	bRe, bIm, bRight := parts(b)
	if !aRight || !bRight {
		return false
	}
	return aRe < bRe || aRe == bRe && aIm < bIm
}
