package sane_test

import (
	"testing"

	"ephemeris/api"
	"ephemeris/sane"
)

// distant is a good packet of that Delay and Disp.
func distant(delay, disp uint32) api.Packet {
	return with(good(), func(p *api.Packet) { p.Delay, p.Disp = delay, disp })
}

// P8.2: root distances by hand, and what Test says of them: just Most is not above it, 1 more is.
func TestRhoByHand(t *testing.T) {
	for _, c := range []struct {
		delay, disp uint32
		rho         int64
		e           api.Errno
	}{
		{0, 0, 0, api.OK},
		{1, 0, 7_630, api.OK},  // of 15259, whose half is 7629 and a half
		{2, 0, 15_259, api.OK}, // of 30518
		{3, 0, 22_889, api.OK}, // of 45777, whose half is 22888 and a half
		{0, 1, 15_259, api.OK},
		{1, 1, 22_889, api.OK},
		{128, 0, 976_563, api.OK}, // of 1953125
		{256, 128, 3_906_250, api.OK},
		{65_536, 32_768, 1_000_000_000, api.OK},
		{0, 1_048_575, 15_999_984_742, api.OK},
		{0, 1_048_576, 16_000_000_000, api.OK},
		{2_097_152, 0, 16_000_000_000, api.OK},
		{256, 1_048_448, 16_000_000_000, api.OK},
		{1_048_576, 524_288, 16_000_000_000, api.OK},
		{1, 1_048_575, 15_999_992_372, api.OK},
		{2_097_151, 0, 15_999_992_371, api.OK},
		{2, 1_048_575, 16_000_000_001, api.ErrSync},
		{2_097_150, 1, 16_000_000_001, api.ErrSync},
		{1, 1_048_576, 16_000_007_630, api.ErrSync},
		{2_097_153, 0, 16_000_007_630, api.ErrSync},
		{0, 1_048_577, 16_000_015_259, api.ErrSync},
		{greatest, 0, 32_767_999_992_371, api.ErrSync},
		{0, greatest, 65_535_999_984_742, api.ErrSync},
		{greatest, greatest, 98_303_999_977_113, api.ErrSync},
	} {
		p := distant(c.delay, c.disp)
		if ns, e := sane.Rho(p), sane.Test(p); ns != c.rho || e != c.e {
			t.Errorf("of Delay %d, Disp %d: Rho %d, Test %d; want %d, %d", c.delay, c.disp, ns, e, c.rho, c.e)
		}
	}
}

// P8.2, P8.3: the root distance of each two shorts, and what Test says of it.
func TestRho(t *testing.T) {
	for _, delay := range shorts() {
		for _, disp := range shorts() {
			check(t, distant(delay, disp))
		}
	}
}

// P8.2: about Most, for Delays of every kind: the greatest Disp with which a packet is not refused, and the next one.
func TestMost(t *testing.T) {
	above := 0
	for delay := uint32(0); delay <= 2_097_152; delay += 127 {
		disp := (2_097_152 - delay) / 2
		for _, by := range []uint32{0, 1, 2, 3} {
			p := distant(delay, max(disp, 2)+by-2)
			check(t, p)
			if sane.Rho(p) == sane.Most+1 {
				above++
			}
		}
	}
	if above < 100 {
		t.Errorf("%d just above Most", above)
	}
}

// P8.4: with a greater Delay, or Disp, the root distance is not less, and what was refused by it is refused.
func TestGreater(t *testing.T) {
	hold := func(p, q api.Packet) {
		t.Helper()
		if sane.Rho(q) < sane.Rho(p) || sane.Test(p) != api.OK && sane.Test(q) != sane.Test(p) {
			t.Fatalf("%v: %d, %d; but %v: %d, %d", p, sane.Rho(p), sane.Test(p), q, sane.Rho(q), sane.Test(q))
		}
	}
	for _, a := range shorts() {
		for _, b := range shorts() {
			p := distant(a, b)
			for _, by := range []uint32{1, 2, 127, 128, 65_536, greatest} {
				hold(p, distant(a+min(by, greatest-a), b))
				hold(p, distant(a, b+min(by, greatest-b)))
			}
		}
	}
	for _, p := range packets() {
		hold(p, with(p, func(q *api.Packet) { q.Delay = greatest }))
		hold(p, with(p, func(q *api.Packet) { q.Disp = greatest }))
	}
}
