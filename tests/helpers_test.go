package tests

import (
	"fmt"
	"math"
	"testing"
)

// bitsOf tells a number without help of the package that is tested.
func bitsOf(x float32) uint32 {
	if x != x {
		return 0x7fc00000
	}
	return math.Float32bits(x)
}

func numberOf(bits uint32) float32 { return math.Float32frombits(bits) }

func wordOf(x float32) string { return fmt.Sprintf("%08x", bitsOf(x)) }

func wordsOf(x complex64) string { return wordOf(real(x)) + wordOf(imag(x)) }

func isNumber(t *testing.T, what string, got, want float32) {
	t.Helper()
	if bitsOf(got) != bitsOf(want) {
		t.Errorf("%s: got %v (%s), want %v (%s)", what, got, wordOf(got), want, wordOf(want))
	}
}

func isComplex(t *testing.T, what string, got, want complex64) {
	t.Helper()
	if wordsOf(got) != wordsOf(want) {
		t.Errorf("%s: got %v (%s), want %v (%s)", what, got, wordsOf(got), want, wordsOf(want))
	}
}

func is[T comparable](t *testing.T, what string, got, want T) {
	t.Helper()
	if got != want {
		t.Errorf("%s: got %v, want %v", what, got, want)
	}
}

var (
	negativeZero = float32(math.Copysign(0, -1))
	infinity     = float32(math.Inf(1))
	notANumber   = float32(math.NaN())
)

// specialBits are those of zeros, infinities, the least and the greatest
// numbers, subnormal ones, not-a-numbers of several bits, and ordinary numbers.
var specialBits = []uint32{
	0x00000000, 0x80000000,
	0x00000001, 0x80000001, 0x007fffff, 0x807fffff, 0x00400000,
	0x00800000, 0x80800000, 0x00800001,
	0x7f7fffff, 0xff7fffff, 0x7f800000, 0xff800000,
	0x7fc00000, 0xffc00000, 0x7f800001, 0xff800001, 0x7fffffff, 0xffffffff,
	0x3f800000, 0xbf800000, 0x3f800001, 0x3f7fffff,
	0x3f000000, 0x3e800000, 0xbe800000, 0x3efffffe, 0x3e800001,
	0x40490fdb, 0xc2f6e979, 0x4b7fffff, 0x4b800000, 0x59800000, 0xd97fffff,
}

// numbers makes numbers without a pattern, the same ones in each run.
type numbers struct{ state uint64 }

func (n *numbers) next() uint64 {
	n.state = n.state*6364136223846793005 + 1442695040888963407
	return n.state
}

func (n *numbers) number() float32 { return numberOf(uint32(n.next() >> 32)) }

// digest tells many results by one number.
type digest uint64

const newDigest digest = 0xcbf29ce484222325

func (d digest) with(n uint32) digest {
	for range 4 {
		d = (d ^ digest(n&255)) * 0x100000001b3
		n >>= 8
	}
	return d
}
