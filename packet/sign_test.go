package packet_test

import (
	"bytes"
	"math"
	"math/rand/v2"
	"slices"
	"testing"

	"ephemeris/api"
	"ephemeris/mac"
	"ephemeris/packet"
)

// exampleKey is the key of chapter 6's examples.
func exampleKey() api.Key {
	return api.Key{Id: 7, A: 0x0706050403020100, B: 0x0f0e0d0c0b0a0908}
}

// someKeys are the example's key, ends, and keys of chance; the same ones in every run.
func someKeys() []api.Key {
	chance := rand.New(rand.NewPCG(51, 256))
	list := []api.Key{exampleKey(), {Id: 1}, {Id: math.MaxUint32, A: math.MaxUint64, B: math.MaxUint64}, {Id: 1 << 31, A: 1}, {Id: 256, B: 1}}
	for range 4 {
		list = append(list, api.Key{Id: max(1, chance.Uint32()), A: chance.Uint64(), B: chance.Uint64()})
	}
	return list
}

// signed is the packet with a seal that is right for the key.
func signed(p api.Packet, k api.Key) api.Packet {
	return sealed(p, k.Id, mac.Tag(k, body(p)))
}

// unsealed is the packet without what it is signed with.
func unsealed(p api.Packet) api.Packet {
	p.Signed, p.Key, p.Tag = false, 0, 0
	return p
}

// checkSign holds Sign of a packet that can be signed against what has to come of it, which is right, and new memory.
func checkSign(t *testing.T, p api.Packet, k api.Key) {
	t.Helper()
	given, right := cloned(p), signed(cloned(p), k)
	got, e := packet.Sign(given, k)
	if !same(got, right) || e != api.OK || !same(given, p) {
		t.Fatalf("Sign(%v, %x) = %v, %d; want %v; and left %v", p, k, got, e, right, given)
	}
	if !packet.May(got) || !packet.Right(got, k) {
		t.Fatalf("Sign(%v, %x) = %v, which is not right", p, k, got)
	}
	if again, e := packet.Sign(got, k); !same(again, right) || e != api.OK {
		t.Fatalf("Sign(%v, %x) = %v, %d", got, k, again, e)
	}
	var memory [][]byte
	for i := range given.Exts {
		memory = append(memory, given.Exts[i].Data)
	}
	clear(given.Exts)
	if !same(got, right) {
		t.Fatalf("Sign(%v, %x) kept the list that was handed in", p, k)
	}
	checkMemory(t, got, memory)
}

// checkSignRefused holds that the packet is not signed, but answered that error, and stays.
func checkSignRefused(t *testing.T, p api.Packet, k api.Key, e api.Errno) {
	t.Helper()
	given := cloned(p)
	if got, f := packet.Sign(given, k); !same(got, api.Packet{}) || f != e || !same(given, p) {
		t.Fatalf("Sign(%v, %x) = %v, %d; want %d; and left %v", p, k, got, f, e, given)
	}
}

// checkRight holds Right against what it has to be; what is handed in stays.
func checkRight(t *testing.T, p api.Packet, k api.Key, right bool) {
	t.Helper()
	given := cloned(p)
	if got := packet.Right(given, k); got != right || !same(given, p) {
		t.Fatalf("Right(%v, %x) = %t; want %t; and left %v", p, k, got, right, given)
	}
}

// P7.3: packets and the tags they are signed with; OpenSSL's SIPHASH told them of the bodies that TestByHand has, too.
func TestSignByHand(t *testing.T) {
	client := api.Packet{Version: 4, Mode: 3}
	one, full := client, client
	one.Exts = []api.Ext{{Type: 0x102, Data: []byte{1, 2, 3, 4, 5, 6, 7, 8, 9, 10, 11, 12}}}
	full.Exts = []api.Ext{{Type: 0xfffe, Data: bytes.Repeat([]byte{0xa5}, 448)}}
	made := handMade()
	whole := made[len(made)-1].p
	mixed := api.Key{Id: math.MaxUint32, A: 0x0123456789abcdef, B: 0xfedcba9876543210}
	for _, c := range []struct {
		p   api.Packet
		k   api.Key
		tag uint64
	}{
		{client, exampleKey(), 0xbdd2fc74fac2e0ce},
		{one, exampleKey(), 0x01b176f63fe40ae3},
		{full, exampleKey(), 0x8958c4ba0b77bc97},
		{whole, mixed, 0x58d9435db1b4c3b4},
		{client, api.Key{Id: 1}, 0xda6d236c6b65a75f},
	} {
		if p, e := packet.Sign(c.p, c.k); !p.Signed || p.Key != c.k.Id || p.Tag != c.tag || e != api.OK {
			t.Errorf("Sign(%v, %x) = %v, %d; want the tag %x", c.p, c.k, p, e, c.tag)
		}
		checkRight(t, sealed(c.p, c.k.Id, c.tag), c.k, true)
		checkSign(t, c.p, c.k)
	}
}

// P7.3, P7.5: what has at most MaxPacket bytes when it is signed is signed, and is right then; what has more is ErrLong.
func TestSign(t *testing.T) {
	keys := someKeys()
	many := map[bool]int{}
	for i, p := range packets() {
		fits := len(body(p)) <= 500
		many[fits]++
		for _, k := range keys[i%len(keys):] {
			if fits {
				checkSign(t, p, k)
			} else {
				checkSignRefused(t, p, k, api.ErrLong)
				checkRight(t, signed(p, k), k, false)
			}
		}
	}
	if many[true] < 300 || many[false] < 100 {
		t.Errorf("%v packets", many)
	}
}

// P7.3: just MaxPacket bytes with the seal are none too many, whatever the packet was signed with.
func TestSignLong(t *testing.T) {
	chance := rand.New(rand.NewPCG(52, 256))
	for _, k := range someKeys() {
		for _, c := range aboutMost() {
			p := some(chance, c.lengths...)
			for _, q := range []api.Packet{p, chanceSeal(chance, p)} {
				if c.many <= 500 {
					checkSign(t, q, k)
				} else {
					checkSignRefused(t, q, k, api.ErrLong)
				}
				checkRight(t, signed(q, k), k, c.many <= 500)
			}
		}
	}
}

// P7.3: what a packet is signed with does not matter, be it such that may be or not, nor whether it is.
func TestSignAnew(t *testing.T) {
	chance := rand.New(rand.NewPCG(53, 256))
	k := exampleKey()
	for _, of := range []api.Packet{{Version: 4, Mode: 3}, some(chance, 12, 16), some(chance, 448)} {
		for _, p := range []api.Packet{of, signed(of, k), signed(of, someKeys()[2]), sealed(of, k.Id, 5), sealed(of, 5, mac.Tag(k, body(of)))} {
			checkSign(t, p, k)
		}
		for _, f := range faults() {
			if !f.seal {
				continue
			}
			p := cloned(of)
			f.make(&p)
			checkSign(t, p, k)
			checkRight(t, p, k, false)
		}
	}
}

// P7.3: what may not be, but for what it is signed with, is ErrArg, also if it would have too many bytes; it is never right.
func TestSignMayNot(t *testing.T) {
	k := exampleKey()
	both := 0
	checkFaulty(func(p api.Packet) {
		checkRight(t, p, k, false)
		if may(unsealed(p)) {
			return
		}
		checkSignRefused(t, p, k, api.ErrArg)
		checkSignRefused(t, p, api.Key{}, api.ErrArg)
		checkRight(t, signed(p, k), k, false)
		if len(body(p)) > 500 {
			both++
		}
	})
	if both < 100 {
		t.Errorf("%d that may not be and are too long", both)
	}
}

// P7.3: a key whose Id is 0 signs nothing, also not what would have too many bytes, and nothing is right for it.
func TestSignNoId(t *testing.T) {
	for _, p := range packets() {
		for _, k := range []api.Key{{}, {A: exampleKey().A, B: exampleKey().B}} {
			checkSignRefused(t, p, k, api.ErrArg)
			checkRight(t, p, k, false)
			checkRight(t, unsealed(p), k, false)
			checkRight(t, signed(p, k), k, false)
		}
	}
}

// someSigned are packets that are right for the key: a head alone, with fields, as many and as great as may be.
func someSigned(k api.Key) []api.Packet {
	chance := rand.New(rand.NewPCG(54, 256))
	list := []api.Packet{{Version: 4, Mode: 3}, some(chance), some(chance, 12), some(chance, slices.Repeat([]int{12}, 8)...), some(chance, 448)}
	for i := range list {
		list[i] = signed(list[i], k)
	}
	return list
}

// P7.5: with one bit of its Tag or of its Key changed, or without them, a packet is not right.
func TestRightSeal(t *testing.T) {
	for _, k := range someKeys() {
		for _, p := range someSigned(k) {
			checkRight(t, p, k, true)
			for bit := range 64 {
				checkRight(t, sealed(p, p.Key, p.Tag^1<<bit), k, false)
				checkRight(t, sealed(p, p.Key^1<<(bit%32), p.Tag), k, false)
			}
			q := p
			q.Signed = false
			checkRight(t, q, k, false)
			checkRight(t, unsealed(p), k, false)
			checkRight(t, sealed(p, 0, p.Tag), k, false)
			checkRight(t, sealed(p, p.Key, 0), k, false)
			checkRight(t, sealed(p, p.Key, ^p.Tag), k, false)
			checkRight(t, sealed(p, p.Key, p.Tag<<32|p.Tag>>32), k, false)
		}
	}
}

// P7.5: a packet is not right for a key of another Id, also if all else of that is the same, nor for one that differs in a bit.
func TestRightKey(t *testing.T) {
	for i, k := range someKeys() {
		for _, p := range someSigned(k) {
			for bit := range 64 {
				checkRight(t, p, api.Key{Id: k.Id ^ 1<<(bit%32), A: k.A, B: k.B}, false)
				checkRight(t, p, api.Key{Id: k.Id, A: k.A ^ 1<<bit, B: k.B}, false)
				checkRight(t, p, api.Key{Id: k.Id, A: k.A, B: k.B ^ 1<<bit}, false)
			}
			checkRight(t, p, api.Key{A: k.A, B: k.B}, false)
			checkRight(t, p, api.Key{Id: k.Id, A: k.B + 1, B: k.A}, false)
			for j, other := range someKeys() {
				checkRight(t, p, other, i == j)
				checkRight(t, sealed(p, other.Id, p.Tag), other, i == j)
			}
		}
	}
}

// P7.3: the tag is of the whole body: with a bit of it changed the packet is not right, nor with fields changed about.
func TestRightBody(t *testing.T) {
	k := exampleKey()
	for _, p := range someSigned(k) {
		b := want(p)
		for at := range b {
			changed := slices.Clone(b)
			changed[at] ^= 1 << (at % 8)
			if q, e := packet.Parse(changed); e == api.OK {
				checkRight(t, q, k, false)
				if at < len(b)-12 {
					checkRight(t, signed(q, k), k, true)
				}
			}
		}
		if len(p.Exts) > 1 {
			q := cloned(p)
			q.Exts[0], q.Exts[1] = q.Exts[1], q.Exts[0]
			checkRight(t, q, k, false)
			q.Exts = q.Exts[1:]
			checkRight(t, q, k, false)
		}
		longer := cloned(p)
		longer.Exts = slices.Insert(longer.Exts, 0, api.Ext{Data: make([]byte, 12)})
		checkRight(t, longer, k, false)
	}
}

// P7.4, P7.5: what was signed, put, and parsed again, is right still.
func TestSignedBack(t *testing.T) {
	for _, k := range someKeys() {
		for _, of := range someSigned(exampleKey()) {
			p, _ := packet.Sign(of, k)
			b, e := packet.Put(p)
			if e != api.OK {
				t.Fatalf("Put(%v): %d", p, e)
			}
			back, e := packet.Parse(b)
			if !packet.Same(back, p) || e != api.OK {
				t.Fatalf("Put(%v) leads back to %v, %d", p, back, e)
			}
			checkRight(t, back, k, true)
		}
	}
}
