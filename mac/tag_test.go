package mac_test

import (
	"bytes"
	"encoding/binary"
	"math"
	"math/rand/v2"
	"slices"
	"testing"

	"ephemeris/api"
	"ephemeris/mac"
)

// exampleKey is the key of the chapter's examples.
func exampleKey() api.Key {
	return api.Key{Id: 1, A: 0x0706050403020100, B: 0x0f0e0d0c0b0a0908}
}

// someKeys are the examples' key, ends, and keys of chance; the same ones in every run.
func someKeys() []api.Key {
	chance := rand.New(rand.NewPCG(21, 256))
	list := []api.Key{
		exampleKey(), {}, {Id: 5}, {Id: math.MaxUint32, A: math.MaxUint64, B: math.MaxUint64},
		{Id: 2, A: 1}, {Id: 3, B: 1}, {Id: 4, A: 1 << 63}, {Id: 6, B: 1 << 63},
	}
	for range 8 {
		list = append(list, api.Key{Id: chance.Uint32(), A: chance.Uint64(), B: chance.Uint64()})
	}
	return list
}

// counted are so many bytes, 0, 1, 2 and on, behind 255 again 0.
func counted(n int) []byte {
	b := make([]byte, n)
	for i := range b {
		b[i] = byte(i)
	}
	return b
}

// chanceBytes are so many bytes of chance.
func chanceBytes(chance *rand.Rand, n int) []byte {
	b := make([]byte, n)
	for i := range b {
		b[i] = byte(chance.Uint32())
	}
	return b
}

// lengths are how many bytes there may be: all up to 300, and those beside the multiples of eight and of 256 behind.
func lengths() []int {
	var list []int
	for n := range 300 {
		list = append(list, n)
	}
	return append(list, 503, 504, 505, 511, 512, 513, 767, 768, 769, 1023, 1024, 1025, 65535, 65536, 65537, 70000)
}

// words are those of the bytes, told off from the bytes with their end laid behind them.
func words(b []byte) []uint64 {
	full := slices.Clone(b)
	for len(full)%8 != 7 {
		full = append(full, 0)
	}
	full = append(full, byte(len(b)%256))
	var list []uint64
	for at := 0; at < len(full); at += 8 {
		list = append(list, binary.LittleEndian.Uint64(full[at:]))
	}
	return list
}

// want is the bytes' tag by the key, as the chapter tells it, step by step.
func want(k api.Key, b []byte) uint64 {
	v0, v1 := k.A^0x736f6d6570736575, k.B^0x646f72616e646f6d
	v2, v3 := k.A^0x6c7967656e657261, k.B^0x7465646279746573
	turned := func(x uint64, n int) uint64 { return x<<n | x>>(64-n) }
	round := func() {
		v0 += v1
		v1 = turned(v1, 13)
		v1 ^= v0
		v0 = turned(v0, 32)
		v2 += v3
		v3 = turned(v3, 16)
		v3 ^= v2
		v0 += v3
		v3 = turned(v3, 21)
		v3 ^= v0
		v2 += v1
		v1 = turned(v1, 17)
		v1 ^= v2
		v2 = turned(v2, 32)
	}
	for _, m := range words(b) {
		v3 ^= m
		round()
		round()
		v0 ^= m
	}
	v2 ^= 0xff
	round()
	round()
	round()
	round()
	return v0 ^ v1 ^ v2 ^ v3
}

// checkTag holds Tag and Right of parts against the tag that is right.
func checkTag(t *testing.T, k api.Key, tag uint64, parts ...[]byte) {
	t.Helper()
	if got := mac.Tag(k, parts...); got != tag {
		t.Fatalf("Tag(%x, %x) = %x; want %x", k, parts, got, tag)
	}
	if !mac.Right(k, tag, parts...) {
		t.Fatalf("Right(%x, %x, %x) = false", k, tag, parts)
	}
	if mac.Right(k, tag+1, parts...) {
		t.Fatalf("Right(%x, %x, %x) = true", k, tag+1, parts)
	}
}

// P6.1: the tags of 0, 1, .. 63 counted bytes by the examples' key, among them the chapter's; OpenSSL's SIPHASH told them.
func TestTagCounted(t *testing.T) {
	tags := []uint64{
		0x726fdb47dd0e0e31, 0x74f839c593dc67fd, 0x0d6c8009d9a94f5a, 0x85676696d7fb7e2d,
		0xcf2794e0277187b7, 0x18765564cd99a68d, 0xcbc9466e58fee3ce, 0xab0200f58b01d137,
		0x93f5f5799a932462, 0x9e0082df0ba9e4b0, 0x7a5dbbc594ddb9f3, 0xf4b32f46226bada7,
		0x751e8fbc860ee5fb, 0x14ea5627c0843d90, 0xf723ca908e7af2ee, 0xa129ca6149be45e5,
		0x3f2acc7f57c29bdb, 0x699ae9f52cbe4794, 0x4bc1b3f0968dd39c, 0xbb6dc91da77961bd,
		0xbed65cf21aa2ee98, 0xd0f2cbb02e3b67c7, 0x93536795e3a33e88, 0xa80c038ccd5ccec8,
		0xb8ad50c6f649af94, 0xbce192de8a85b8ea, 0x17d835b85bbb15f3, 0x2f2e6163076bcfad,
		0xde4daaaca71dc9a5, 0xa6a2506687956571, 0xad87a3535c49ef28, 0x32d892fad841c342,
		0x7127512f72f27cce, 0xa7f32346f95978e3, 0x12e0b01abb051238, 0x15e034d40fa197ae,
		0x314dffbe0815a3b4, 0x027990f029623981, 0xcadcd4e59ef40c4d, 0x9abfd8766a33735c,
		0x0e3ea96b5304a7d0, 0xad0c42d6fc585992, 0x187306c89bc215a9, 0xd4a60abcf3792b95,
		0xf935451de4f21df2, 0xa9538f0419755787, 0xdb9acddff56ca510, 0xd06c98cd5c0975eb,
		0xe612a3cb9ecba951, 0xc766e62cfcadaf96, 0xee64435a9752fe72, 0xa192d576b245165a,
		0x0a8787bf8ecb74b2, 0x81b3e73d20b49b6f, 0x7fa8220ba3b2ecea, 0x245731c13ca42499,
		0xb78dbfaf3a8d83bd, 0xea1ad565322a1a0b, 0x60e61c23a3795013, 0x6606d7e446282b93,
		0x6ca4ecb15c5f91e1, 0x9f626da15c9625f3, 0xe51b38608ef25f57, 0x958a324ceb064572,
	}
	for n, tag := range tags {
		checkTag(t, exampleKey(), tag, counted(n))
	}
}

// P6.1: the tags of more bytes, some of them more than 255, and by other keys; OpenSSL's SIPHASH told them.
func TestTagByHand(t *testing.T) {
	ones := api.Key{A: math.MaxUint64, B: math.MaxUint64}
	mixed := api.Key{A: 0x0123456789abcdef, B: 0xfedcba9876543210}
	for _, c := range []struct {
		k   api.Key
		b   []byte
		tag uint64
	}{
		{exampleKey(), counted(64), 0xacd2c40b8502cad8},
		{exampleKey(), counted(255), 0xa9c169fec74db21a},
		{exampleKey(), counted(256), 0x999d0526d2a7bfd7},
		{exampleKey(), counted(257), 0x8a817b8d55b29748},
		{exampleKey(), counted(511), 0x969303d05e5af242},
		{exampleKey(), counted(512), 0x883b57c3e55ada0e},
		{exampleKey(), counted(513), 0x90b6017f2031622b},
		{exampleKey(), counted(70000), 0x9b504435737a827d},
		{api.Key{}, nil, 0x1e924b9d737700d7},
		{api.Key{}, make([]byte, 1), 0x8b5a0baa49fbc58d},
		{api.Key{}, make([]byte, 256), 0x80d978d6fa417c1e},
		{api.Key{A: 1}, nil, 0x54e761ac4b1ca3de},
		{api.Key{B: 1}, nil, 0xc4235c5247d6521c},
		{api.Key{A: 1 << 63}, []byte("ephemeris"), 0xc85f4d5f2091db93},
		{api.Key{B: 1 << 63}, []byte("ephemeris"), 0xa9b6d37384215510},
		{ones, nil, 0x35dd279ee86ce565},
		{ones, bytes.Repeat([]byte{255}, 8), 0xf13e77491777f9d0},
		{mixed, []byte("ephemeris"), 0x761d8ef94b1e4754},
		{mixed, make([]byte, 256), 0x6b79794198a34c29},
	} {
		checkTag(t, c.k, c.tag, c.b)
	}
}

// P6.1: of no parts, and of parts of no bytes, the tag is that of no bytes, by each key.
func TestTagOfNothing(t *testing.T) {
	checkTag(t, exampleKey(), 0x726fdb47dd0e0e31)
	for _, k := range someKeys() {
		tag := want(k, nil)
		checkTag(t, k, tag)
		checkTag(t, k, tag, [][]byte{}...)
		checkTag(t, k, tag, nil)
		checkTag(t, k, tag, []byte{})
		checkTag(t, k, tag, nil, []byte{}, nil, make([]byte, 0, 9))
	}
}

// P6.1: the tag is the words' that the chapter tells, for each number of bytes and each key.
func TestTag(t *testing.T) {
	chance := rand.New(rand.NewPCG(22, 256))
	for _, k := range someKeys() {
		for _, n := range lengths() {
			b := chanceBytes(chance, n)
			checkTag(t, k, want(k, b), b)
			if n <= 300 {
				ones := bytes.Repeat([]byte{255}, n)
				checkTag(t, k, want(k, ones), ones)
			}
		}
	}
}

// P6.1: the tag is by A and B alone: the Id does not matter, each bit of A and of B does.
func TestTagKey(t *testing.T) {
	for _, k := range someKeys() {
		for _, b := range [][]byte{nil, counted(5), counted(8), counted(60)} {
			tag := mac.Tag(k, b)
			for bit := range 64 {
				byId, byA, byB := k, k, k
				byId.Id ^= 1 << (bit % 32)
				byA.A ^= 1 << bit
				byB.B ^= 1 << bit
				checkTag(t, byId, tag, b)
				checkTag(t, byA, want(byA, b), b)
				checkTag(t, byB, want(byB, b), b)
				if mac.Right(byA, tag, b) || mac.Right(byB, tag, b) {
					t.Fatalf("bit %d of key %x does not matter", bit, k)
				}
			}
		}
	}
}

// P6.1: a tag that differs in one bit, in all of them, or by which key or of which bytes it is, is not right.
func TestRightOther(t *testing.T) {
	for _, k := range someKeys() {
		for _, n := range []int{0, 1, 7, 8, 9, 48, 256} {
			b := counted(n)
			tag := want(k, b)
			halvesTurned := tag<<32 | tag>>32
			for bit := range 64 {
				if mac.Right(k, tag^1<<bit, b) {
					t.Fatalf("Right(%x, %x with bit %d changed, %x) = true", k, tag, bit, b)
				}
			}
			if mac.Right(k, ^tag, b) || mac.Right(k, 0, b) || mac.Right(k, halvesTurned, b) {
				t.Fatalf("Right(%x, another than %x, %x) = true", k, tag, b)
			}
			if mac.Right(api.Key{Id: k.Id, A: k.B + 1, B: k.A}, tag, b) || mac.Right(k, tag, b, []byte{0}) || mac.Right(k, tag, []byte{0}, b) {
				t.Fatalf("Right(another key, or other bytes than %x) = true", b)
			}
		}
	}
}

// P6.1, P6.3: each bit of the bytes matters, wherever it stands, and so does their order.
func TestTagBits(t *testing.T) {
	k := exampleKey()
	for _, n := range []int{1, 7, 8, 9, 15, 16, 17, 48, 256, 257} {
		b := counted(n)
		tag := mac.Tag(k, b)
		for at := range b {
			for bit := range 8 {
				b[at] ^= 1 << bit
				checkTag(t, k, want(k, b), b)
				if mac.Right(k, tag, b) {
					t.Fatalf("bit %d of byte %d of %d does not matter", bit, at, n)
				}
				b[at] ^= 1 << bit
			}
		}
		slices.Reverse(b)
		if n > 1 && mac.Right(k, tag, b) {
			t.Fatalf("the order of %d bytes does not matter", n)
		}
	}
}

// P6.3: bytes parted at every place, in two and in three, with parts of no bytes between, have one tag.
func TestTagParted(t *testing.T) {
	chance := rand.New(rand.NewPCG(23, 256))
	for _, n := range []int{1, 2, 7, 8, 9, 15, 16, 17, 24, 40, 255, 256, 257, 513} {
		k := someKeys()[n%16]
		b := chanceBytes(chance, n)
		tag := want(k, b)
		for at := range n + 1 {
			checkTag(t, k, tag, b[:at], b[at:])
			checkTag(t, k, tag, nil, b[:at], []byte{}, nil, b[at:], nil)
			for behind := at; behind <= min(n, at+17); behind++ {
				checkTag(t, k, tag, b[:at], b[at:behind], b[behind:])
			}
		}
	}
}

// P6.3: bytes that come in parts of one size, byte by byte the first ones, and in parts of chance, have one tag.
func TestTagPartsOfSize(t *testing.T) {
	chance := rand.New(rand.NewPCG(24, 256))
	k := exampleKey()
	for _, n := range lengths() {
		b := chanceBytes(chance, n)
		tag := want(k, b)
		for _, size := range []int{1, 2, 3, 7, 8, 9, 64, 255, 256} {
			checkTag(t, k, tag, slices.Collect(slices.Chunk(b, size))...)
		}
		var parts [][]byte
		for left := b; len(left) > 0; {
			size := chance.IntN(min(len(left), 40) + 1)
			parts = append(parts, left[:size])
			left = left[size:]
		}
		checkTag(t, k, tag, parts...)
	}
}

// P6.3: the same memory may come as more parts than one.
func TestTagPartTwice(t *testing.T) {
	b := counted(11)
	checkTag(t, exampleKey(), want(exampleKey(), slices.Concat(b, b, b[3:], b[:5])), b, b, b[3:], b[:5])
}

// P6.3: zeros of another length have another tag, also if the lengths are alike by 256 or within one word.
func TestTagLengths(t *testing.T) {
	for _, k := range someKeys()[:8] {
		seen := map[uint64]int{}
		for n := range 1100 {
			tag := mac.Tag(k, make([]byte, n))
			if other, there := seen[tag]; there {
				t.Fatalf("%d and %d zeros have one tag by %x", other, n, k)
			}
			seen[tag] = n
		}
	}
}

// P6.1: what is handed in stays as it was: the parts, their list, and what stands behind a part in its memory.
func TestTagLeaves(t *testing.T) {
	k := exampleKey()
	for _, n := range []int{0, 1, 7, 8, 9, 64, 257} {
		memory := counted(n + 32)
		parts := [][]byte{memory[:n/2], nil, memory[n/2 : n], memory[3:3], memory[n/2 : n]}
		spare := append(slices.Clone(parts), nil, nil)
		given := spare[:len(parts)]
		bytesOfAll := slices.Concat(parts...)
		checkTag(t, k, want(k, bytesOfAll), given...)
		checkTag(t, k, want(k, bytesOfAll), given...) // nothing is kept from the last call
		if !bytes.Equal(memory, counted(n+32)) {
			t.Errorf("of %d bytes: memory was left as %x", n, memory)
		}
		for i, part := range spare {
			if i >= len(parts) && part != nil || i < len(parts) && !bytes.Equal(part, parts[i]) {
				t.Errorf("of %d bytes: part %d was left as %x", n, i, part)
			}
		}
	}
}
