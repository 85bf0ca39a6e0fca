package sane_test

import (
	"math"
	"math/big"
	"math/rand/v2"
	"reflect"
	"slices"
	"testing"

	"ephemeris/api"
	"ephemeris/sane"
)

const greatest = math.MaxUint32

// The RefIds of the codes that ask for something, and of two that do not.
const (
	rateId = 0x52415445
	denyId = 0x44454e59
	rstrId = 0x52535452
	gpsId  = 0x47505300
	initId = 0x494e4954
)

// good is the chapter's packet that is not refused.
func good() api.Packet {
	return api.Packet{Mode: 4, Stratum: 1, Rec: 1, Xmt: 1, Delay: 65_536, Disp: 32_768}
}

// with is the packet with that changed.
func with(p api.Packet, change func(*api.Packet)) api.Packet {
	change(&p)
	return p
}

// up is a / b, up, of numbers that are not below 0.
func up(a, b *big.Int) *big.Int {
	n, rest := new(big.Int).QuoRem(a, b, new(big.Int))
	if rest.Sign() > 0 {
		n.Add(n, big.NewInt(1))
	}
	return n
}

// nanoseconds are a short's, up.
func nanoseconds(u uint32) *big.Int {
	return up(new(big.Int).Mul(big.NewInt(int64(u)), big.NewInt(1_000_000_000)), big.NewInt(65_536))
}

// rho is the packet's root distance, worked out exactly.
func rho(p api.Packet) int64 {
	half := up(nanoseconds(p.Delay), big.NewInt(2))
	return half.Add(half, nanoseconds(p.Disp)).Int64()
}

// code is the four bytes, digit by digit, the lowest first, as long as nothing but 00s came.
func code(id uint32) string {
	var l []byte
	for range 4 {
		digit := byte(id % 256)
		id /= 256
		if digit > 0 || len(l) > 0 {
			l = slices.Insert(l, 0, digit)
		}
	}
	return string(l)
}

// faults are all that a packet can be refused by, each alone, in the order of their errors.
func faults() []struct {
	make func(*api.Packet)
	e    api.Errno
} {
	return []struct {
		make func(*api.Packet)
		e    api.Errno
	}{
		{func(p *api.Packet) { p.Mode = 3 }, api.ErrMode},
		{func(p *api.Packet) { p.Stratum = 0 }, api.ErrKiss},
		{func(p *api.Packet) { p.Leap = 3 }, api.ErrSync},
		{func(p *api.Packet) { p.Stratum = 16 }, api.ErrSync},
		{func(p *api.Packet) { p.Rec = 0 }, api.ErrSync},
		{func(p *api.Packet) { p.Xmt = 0 }, api.ErrSync},
		{func(p *api.Packet) { p.Delay = greatest }, api.ErrSync},
		{func(p *api.Packet) { p.Disp = greatest }, api.ErrSync},
	}
}

// want is the error that Test has to tell.
func want(p api.Packet) api.Errno {
	switch {
	case p.Mode != 4:
		return api.ErrMode
	case p.Stratum == 0:
		return api.ErrKiss
	case p.Leap == 3, p.Stratum >= 16, p.Rec == 0, p.Xmt == 0, rho(p) >= 16_000_000_001:
		return api.ErrSync
	}
	return api.OK
}

// shorts are shorts of every kind: ends, limits, those about the half of Most and Most, and some of chance.
func shorts() []uint32 {
	list := []uint32{0, 1, 2, 3, greatest - 1, greatest, 1<<31 - 1, 1 << 31, 1<<31 + 1}
	for _, n := range []uint32{127, 128, 256, 32_768, 65_536, 1_048_576, 2_097_152} {
		list = append(list, n-2, n-1, n, n+1, n+2)
	}
	chance := rand.New(rand.NewPCG(61, 16))
	for length := range 32 {
		list = append(list, chance.Uint32()>>length, chance.Uint32()<<length)
	}
	return list
}

// refIds are RefIds of every kind: codes, 00s at any place, and some of chance.
func refIds() []uint32 {
	list := []uint32{0, 1, greatest, rateId, denyId, rstrId, gpsId, initId, 0x41, 0x4100, 0x410000, 0x41000000, 0x41004200, 0x41000042, 0x410042,
		0x41420043, 0x20202020, 0x30303030, 0x80000000, 0xc3280000, 0xff00ff00, 0x72617465, 0x52415400, 0x00524154}
	chance := rand.New(rand.NewPCG(62, 16))
	for kept := range uint32(16) { // 00s at each set of places
		id := chance.Uint32() | 0x01010101
		for at := range 4 {
			if kept>>at&1 == 0 {
				id &^= 0xff << (8 * at)
			}
		}
		list = append(list, id)
	}
	for range 200 {
		list = append(list, chance.Uint32())
	}
	return list
}

// pick is one of the list, by chance.
func pick[T any](chance *rand.Rand, list ...T) T { return list[chance.IntN(len(list))] }

// packets are packets of every kind, good ones, refused ones, and such that may not be; the same ones in every run.
func packets() []api.Packet {
	list := []api.Packet{{}, good()}
	chance := rand.New(rand.NewPCG(63, 16))
	ids, lengths := refIds(), shorts()
	for range 4_000 {
		p := api.Packet{
			Leap: pick[byte](chance, 0, 0, 1, 2, 3, byte(chance.Uint32())), Version: byte(chance.Uint32()),
			Mode:    pick[byte](chance, 4, 4, 4, 3, byte(chance.Uint32())),
			Stratum: pick[byte](chance, 0, 1, 1, 2, 15, 15, 16, 255, byte(chance.Uint32())),
			Poll:    int8(chance.Uint32()), Prec: int8(chance.Uint32()),
			Delay: pick(chance, 0, chance.Uint32()>>12, pick(chance, lengths...)),
			Disp:  pick(chance, 0, chance.Uint32()>>12, pick(chance, lengths...)),
			RefId: pick(chance, ids...),
			Ref:   chance.Uint64(), Org: chance.Uint64(),
			Rec: pick[uint64](chance, 0, 1, 1<<63, 1<<32, chance.Uint64()), Xmt: pick[uint64](chance, 0, 1, 1<<63, 1<<32, chance.Uint64()),
		}
		list = append(list, p)
	}
	return list
}

// check holds all calls of a packet against what they have to be.
func check(t *testing.T, p api.Packet) {
	t.Helper()
	if e := sane.Test(p); e != want(p) {
		t.Fatalf("Test(%v) = %d; want %d", p, e, want(p))
	}
	if ns := sane.Rho(p); ns != rho(p) {
		t.Fatalf("Rho(%v) = %d; want %d", p, ns, rho(p))
	}
	right := ""
	if p.Stratum == 0 {
		right = code(p.RefId)
	}
	if got, kiss := sane.Kiss(p); got != right || kiss != (p.Stratum == 0) {
		t.Fatalf("Kiss(%v) = %q, %t; want %q", p, got, kiss, right)
	}
}

// P8.1, P8.2: the chapter's examples.
func TestExamples(t *testing.T) {
	for _, c := range []struct {
		p    api.Packet
		e    api.Errno
		code string
		kiss bool
		act  int
		rho  int64
	}{
		{p: api.Packet{Mode: 3}, e: api.ErrMode, kiss: true},
		{p: api.Packet{Mode: 4, RefId: rateId}, e: api.ErrKiss, code: "RATE", kiss: true, act: 1},
		{p: good(), rho: 1_000_000_000},
		{p: with(good(), func(p *api.Packet) { p.Stratum = 16 }), e: api.ErrSync, rho: 1_000_000_000},
	} {
		code, kiss := sane.Kiss(c.p)
		if e := sane.Test(c.p); e != c.e || code != c.code || kiss != c.kiss || sane.Act(code) != c.act || sane.Rho(c.p) != c.rho {
			t.Errorf("%v: Test %d, Kiss %q %t, Act %d, Rho %d", c.p, e, code, kiss, sane.Act(code), sane.Rho(c.p))
		}
	}
	if sane.Most != 16_000_000_000 || sane.Nothing != 0 || sane.Slower != 1 || sane.Never != 2 {
		t.Error("constants")
	}
}

// P8.1 to P8.3: every call, of packets of every kind; one that is refused by a kiss has a code, one that is not refused has
// none, and a root distance from 0 to Most.
func TestAll(t *testing.T) {
	many := map[api.Errno]int{}
	for _, p := range packets() {
		check(t, p)
		e := sane.Test(p)
		many[e]++
		code, kiss := sane.Kiss(p)
		if e == api.ErrKiss && !kiss || e == api.OK && (kiss || code != "" || sane.Rho(p) < 0 || sane.Rho(p) > sane.Most) {
			t.Fatalf("Test(%v) = %d, Kiss %q, %t, Rho %d", p, e, code, kiss, sane.Rho(p))
		}
	}
	for _, e := range []api.Errno{api.OK, api.ErrMode, api.ErrKiss, api.ErrSync} {
		if many[e] < 200 {
			t.Errorf("%d packets of error %d", many[e], e)
		}
	}
}

// P8.2: each number at which a packet is refused, and all others, of an otherwise good packet.
func TestBounds(t *testing.T) {
	errorOf := func(p api.Packet, e api.Errno) {
		t.Helper()
		if got := sane.Test(p); got != e {
			t.Errorf("Test(%v) = %d; want %d", p, got, e)
		}
	}
	for n := range 256 {
		mode, stratum, leap := api.OK, api.OK, api.OK
		if n != 4 {
			mode = api.ErrMode
		}
		if n == 0 {
			stratum = api.ErrKiss
		}
		if n > 15 {
			stratum = api.ErrSync
		}
		if n == 3 {
			leap = api.ErrSync
		}
		errorOf(with(good(), func(p *api.Packet) { p.Mode = byte(n) }), mode)
		errorOf(with(good(), func(p *api.Packet) { p.Stratum = byte(n) }), stratum)
		errorOf(with(good(), func(p *api.Packet) { p.Leap = byte(n) }), leap)
	}
	errorOf(with(good(), func(p *api.Packet) { p.Rec = 0 }), api.ErrSync)
	errorOf(with(good(), func(p *api.Packet) { p.Xmt = 0 }), api.ErrSync)
	for bit := range 64 {
		errorOf(with(good(), func(p *api.Packet) { p.Rec = 1 << bit }), api.OK)
		errorOf(with(good(), func(p *api.Packet) { p.Xmt = 1 << bit }), api.OK)
	}
}

// P8.2: of several errors the first one, for each set of what can be wrong.
func TestOrder(t *testing.T) {
	list := faults()
	for set := range 1 << len(list) {
		p, e := good(), api.OK
		for i, f := range list {
			if set>>i&1 == 0 {
				continue
			}
			f.make(&p)
			if e == api.OK {
				e = f.e
			}
		}
		if e == api.ErrKiss && p.Stratum != 0 { // both strata are asked for, and the later one stands
			e = api.ErrSync
		}
		if got := sane.Test(p); got != e {
			t.Errorf("Test(%v) = %d; want %d", p, got, e)
		}
	}
	for _, id := range refIds() { // a kiss is one whatever its code, and a Mode that is wrong comes ahead of it
		kiss := api.Packet{Mode: 4, Leap: 3, RefId: id}
		if e := sane.Test(kiss); e != api.ErrKiss {
			t.Errorf("Test(%v) = %d", kiss, e)
		}
		kiss.Mode = 5
		if e := sane.Test(kiss); e != api.ErrMode {
			t.Errorf("Test(%v) = %d", kiss, e)
		}
	}
}

// P8.5: nothing else of a packet matters, and nothing of it is changed.
func TestElse(t *testing.T) {
	chance := rand.New(rand.NewPCG(64, 16))
	for _, p := range packets() {
		q := p
		q.Version, q.Poll, q.Prec = byte(chance.Uint32()), int8(chance.Uint32()), int8(chance.Uint32())
		q.Ref, q.Org = pick(chance, 0, chance.Uint64()), pick(chance, 0, chance.Uint64())
		q.Exts = []api.Ext{{Type: uint16(chance.Uint32()), Data: make([]byte, chance.IntN(20))}}
		q.Signed, q.Key, q.Tag = chance.IntN(2) == 0, chance.Uint32(), chance.Uint64()
		if p.Rec != 0 {
			q.Rec = max(1, chance.Uint64())
		}
		if p.Xmt != 0 {
			q.Xmt = max(1, chance.Uint64())
		}
		if p.Stratum != 0 {
			q.RefId = pick(chance, refIds()...)
		}
		given := q
		given.Exts = []api.Ext{{Type: q.Exts[0].Type, Data: slices.Clone(q.Exts[0].Data)}}
		code, kiss := sane.Kiss(p)
		like, same := sane.Kiss(q)
		if sane.Test(p) != sane.Test(q) || sane.Rho(p) != sane.Rho(q) || code != like || kiss != same {
			t.Fatalf("%v and %v differ", p, q)
		}
		if !reflect.DeepEqual(q, given) {
			t.Fatalf("%v became %v", given, q)
		}
	}
}

// P8.5: a root distance is of Delay and Disp alone, a kiss of Stratum and RefId alone, also where Test refuses the packet.
func TestAlone(t *testing.T) {
	for _, p := range packets() {
		short := api.Packet{Delay: p.Delay, Disp: p.Disp}
		if sane.Rho(p) != sane.Rho(short) {
			t.Fatalf("Rho(%v) = %d; of its Delay and Disp alone %d", p, sane.Rho(p), sane.Rho(short))
		}
		bare := api.Packet{Stratum: p.Stratum, RefId: p.RefId}
		code, kiss := sane.Kiss(p)
		if like, same := sane.Kiss(bare); code != like || kiss != same {
			t.Fatalf("Kiss(%v) = %q, %t; of its Stratum and RefId alone %q, %t", p, code, kiss, like, same)
		}
	}
}
