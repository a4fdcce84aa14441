package seal

// polynomial is that of IEEE 802.3 with its lowest power in the highest bit, as bits of each byte go from the lowest on.
const polynomial uint32 = 0xedb88320

// one and eight are the powers 0 and 8 of x.
const (
	one   uint32 = 1 << 31
	eight uint32 = one >> 8
)

// ones is the state that a sum is begun with.
const ones uint32 = 0xffffffff

// leaves are what the lowest four bits of a state leave behind when they go out of it.
var leaves = [16]uint32{
	0x00000000, 0x1db71064, 0x3b6e20c8, 0x26d930ac, 0x76dc4190, 0x6b6b51f4, 0x4db26158, 0x5005713c,
	0xedb88320, 0xf00f9344, 0xd6d6a3e8, 0xcb61b38c, 0x9b64c2b0, 0x86d3d2d4, 0xa00ae278, 0xbdbdf21c,
}

// over is a state behind some more bytes.
func over(state uint32, b []byte) uint32 {
	for _, c := range b {
		state ^= uint32(c)
		state = state>>4 ^ leaves[state&15]
		state = state>>4 ^ leaves[state&15]
	}
	return state
}

// Sum is a check sum.
func Sum(b []byte) uint32 { return ^over(ones, b) }

// times is the product of two states, as polynomials.
func times(a, b uint32) uint32 {
	product := uint32(0)
	for power := one; power > 0; power >>= 1 {
		if a&power > 0 {
			product ^= b
		}
		b = b>>1 ^ polynomial*(b&1)
	}
	return product
}

// overZeros is a state behind n more bytes 0: each of them is a product with the power 8 of x.
func overZeros(state uint32, n int) uint32 {
	for power := eight; n > 0; n >>= 1 {
		if n&1 == 1 {
			state = times(state, power)
		}
		power = times(power, power)
	}
	return state
}

// stride is how many bytes lie between two states that are kept.
const stride = 64

// sums tells the sum of any stretch of bytes without going over all of it: where marks stand close together, each with
// a great length, every byte would else be gone over once a mark.
type sums struct {
	bytes []byte
	kept  []uint32 // at i the state behind i * stride bytes, begun with 0
}

func sumsOf(b []byte) sums {
	s := sums{b, make([]uint32, len(b)/stride+1)}
	for i := range len(b) / stride {
		s.kept[i+1] = over(s.kept[i], b[i*stride:(i+1)*stride])
	}
	return s
}

// behind is the state behind the first n bytes, begun with 0.
func (s sums) behind(n int) uint32 {
	i := n / stride
	return over(s.kept[i], s.bytes[i*stride:n])
}

// stretch is the sum of the bytes from one place to another. Two states that differ go on to differ, over whatever
// bytes, as their difference goes over zeros: so what the bytes ahead of the stretch did is taken out, and ones put in.
func (s sums) stretch(from, to int) uint32 {
	return ^(s.behind(to) ^ overZeros(s.behind(from)^ones, to-from))
}
