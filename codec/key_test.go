package codec_test

import (
	"cmp"
	"math"
	"slices"
	"strings"
	"testing"

	"tiller/api"
	"tiller/codec"
)

// rightIDs are made of parts at the edges.
func rightIDs() []api.ID {
	var list []api.ID
	parts := []float64{0, 1, 2, 9, 10, 15, 16, 255, 256, 1 << 32, half - 1, half, most - 1, most}
	for _, re := range parts {
		for _, im := range parts {
			list = append(list, api.ID(complex(re, im)))
		}
	}
	return list
}

// P2.2

func TestIDKeyIsTwentyEightDigits(t *testing.T) {
	for id, want := range map[api.ID]string{
		0:                              "0000000000000000000000000000",
		2 + 3i:                         "0000000000000200000000000003",
		1i:                             "0000000000000000000000000001",
		255 + 171i:                     "000000000000ff000000000000ab",
		api.ID(complex(most, 10)):      "100000000000000000000000000a",
		api.ID(complex(10, most)):      "0000000000000a10000000000000",
		api.ID(complex(most, most)):    "1000000000000010000000000000",
		api.ID(complex(most-1, 1<<32)): "0fffffffffffff00000100000000",
	} {
		if got := codec.IDKey(id); got != want {
			t.Errorf("%v: %q, want %q", id, got, want)
		}
		if got, e := codec.ReadKey(want); got != id || e != api.OK {
			t.Errorf("%q: %v, %d, want %v", want, got, e, id)
		}
	}
}

func TestIDKeyOfAWrongIDIsEmpty(t *testing.T) {
	for _, id := range wrongIDs() {
		if got := codec.IDKey(id); got != "" {
			t.Errorf("%v: %q", id, got)
		}
	}
}

func TestReadKeyRefusesOtherTexts(t *testing.T) {
	right := "0000000000000200000000000003"
	texts := []string{"", "0", right[1:], right[:27], right + "0", "0" + right, right + right, right[:14],
		"1000000000000100000000000003", "0000000000000310000000000001", "ffffffffffffff00000000000000", "00000000000000ffffffffffffff", "20000000000000" + right[14:],
		"+" + right[1:], "-" + right[1:], " " + right[1:], right[:27] + " ", "0x" + right[2:], right[:13] + "_" + right[14:],
		right[:14] + "-0000000000001", right[:14] + "+0000000000001", right[:26] + "é", strings.Repeat("\x00", 28), strings.Repeat("\xff", 28)}
	for _, c := range "ABCDEFGg/:`@" {
		for _, at := range []int{0, 5, 13, 14, 20, 27} {
			texts = append(texts, right[:at]+string(c)+right[at+1:])
		}
	}
	for _, s := range texts {
		if got, e := codec.ReadKey(s); got != 0 || e != api.ErrForm {
			t.Errorf("%q: %v, %d, want ErrForm", s, got, e)
		}
	}
}

func TestReadKeyGivesNoMinusNought(t *testing.T) {
	id, _ := codec.ReadKey(strings.Repeat("0", 28))
	if math.Signbit(real(id)) || math.Signbit(imag(id)) {
		t.Fatal(id)
	}
}

func TestLessIsByTheRealThenTheImaginaryParts(t *testing.T) {
	for _, run := range []struct {
		a, b api.ID
		want bool
	}{
		{1 + 9i, 2, true}, {2, 1 + 9i, false}, {2 + 1i, 2 + 2i, true}, {2 + 2i, 2 + 1i, false}, {2 + 2i, 2 + 2i, false}, {0, 0, false},
		{0, 1i, true}, {1i, 1, true}, {most - 1, most, true}, {most, most - 1, false}, {most + most*1i, most + most*1i, false}, {1 + most*1i, 2, true},
	} {
		if got := codec.Less(run.a, run.b); got != run.want {
			t.Errorf("%v, %v: %t", run.a, run.b, got)
		}
	}
}

func TestLessOfAWrongIDIsFalse(t *testing.T) {
	for _, wrong := range wrongIDs() {
		for _, right := range []api.ID{0, 3 + 3i, 5, most + most*1i} {
			if codec.Less(wrong, right) || codec.Less(right, wrong) || codec.Less(wrong, wrong) {
				t.Errorf("%v, %v", wrong, right)
			}
		}
	}
	if codec.Less(-1, 2) || codec.Less(1, 2.5) || codec.Less(0.5, 1.5) {
		t.Error("wrong IDs have an order")
	}
}

// P2.4

func TestIDKeysStandInTheOrderOfLess(t *testing.T) {
	ids := rightIDs()
	for _, a := range ids {
		if got, e := codec.ReadKey(codec.IDKey(a)); got != a || e != api.OK {
			t.Fatal(a, got, e)
		}
		for _, b := range ids {
			if codec.Less(a, b) != (codec.IDKey(a) < codec.IDKey(b)) {
				t.Fatal(a, b)
			}
		}
	}
	slices.SortFunc(ids, func(a, b api.ID) int { return strings.Compare(codec.IDKey(a), codec.IDKey(b)) })
	rising := func(a, b api.ID) int {
		return cmp.Or(cmp.Compare(real(a), real(b)), cmp.Compare(imag(a), imag(b)))
	}
	if !slices.IsSortedFunc(ids, rising) {
		t.Fatal(ids)
	}
}
