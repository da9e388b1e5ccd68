package impl

const MaxAddr = 4096

// How many bits each number of a Packed has, and the greatest E, which is less
// than its bits could tell.
const (
	bitsOfE = 3
	bitsOfB = 6
	bitsOfL = 6
	maxE    = 6
)

type Packed struct {
	E int
	B int
	L int
}

func BoundsOk(base int, top int) bool {
	return 0 <= base && base <= top && top <= MaxAddr
}

func Pack(base int, top int) (Packed, bool) {
	if !BoundsOk(base, top) {
		return Packed{}, false
	}
	for e := 0; e <= maxE; e++ {
		p := packedAt(base, top, e)
		if packedOk(p) {
			return p, true
		}
	}
	return Packed{}, false
}

func Unpack(p Packed) (int, int, bool) {
	if !packedOk(p) {
		return 0, 0, false
	}
	unit := 1 << p.E
	return p.B * unit, min((p.B+p.L)*unit, MaxAddr), true
}

func Wide(base int, top int) (int, int) {
	if !BoundsOk(base, top) {
		return 0, 0
	}
	p, ok := Pack(base, top)
	if !ok {
		return 0, MaxAddr
	}
	low, high, _ := Unpack(p)
	return low, high
}

func Exact(base int, top int) bool {
	low, high := Wide(base, top)
	return BoundsOk(base, top) && low == base && high == top
}

// packedAt answers what bounds come to at e, whether or not B and L have room
// for it. Base is rounded down and what is needed is rounded up, so that
// nothing of the bounds is lost.
func packedAt(base int, top int, e int) Packed {
	unit := 1 << e
	b := base / unit
	needed := top - b*unit
	return Packed{E: e, B: b, L: (needed + unit - 1) / unit}
}

// packedOk holds p against what its bits have room for: a number that is below
// 0 or too great comes back from its low bits as another one.
func packedOk(p Packed) bool {
	kept := Packed{E: lowBits(p.E)(bitsOfE), B: lowBits(p.B)(bitsOfB), L: lowBits(p.L)(bitsOfL)}
	return p == kept && p.E <= maxE
}

func lowBits(n int) func(count int) int {
	return func(count int) int { return n & (1<<count - 1) }
}
