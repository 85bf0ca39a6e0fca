package sane_test

import (
	"strings"
	"testing"

	"ephemeris/api"
	"ephemeris/sane"
)

// P8.1: a code is a RefId's bytes, the highest first; 00s are left out at its end, and stay ahead and within.
func TestKissByHand(t *testing.T) {
	for id, code := range map[uint32]string{
		rateId: "RATE", denyId: "DENY", rstrId: "RSTR", initId: "INIT",
		gpsId: "GPS", 0x41420000: "AB", 0x41000000: "A", 0: "",
		0x00414243: "\x00ABC", 0x00004142: "\x00\x00AB", 0x00000041: "\x00\x00\x00A", 0x00410000: "\x00A", 0x00004100: "\x00\x00A",
		0x41004200: "A\x00B", 0x41000042: "A\x00\x00B", 0x41420043: "AB\x00C", 0x00410042: "\x00A\x00B",
		0x30303030: "0000", 0x41202020: "A   ", 0x09410a20: "\tA\n ", 0xc3280000: "\xc3(", 0xff00ff00: "\xff\x00\xff",
		0x80000000: "\x80", 0x01000000: "\x01", 1: "\x00\x00\x00\x01", greatest: "\xff\xff\xff\xff",
	} {
		if got, kiss := sane.Kiss(api.Packet{Mode: 4, RefId: id}); got != code || !kiss {
			t.Errorf("Kiss of the RefId %08x = %q, %t; want %q", id, got, kiss, code)
		}
	}
}

// P8.1: a packet is a kiss if its Stratum is 0, and only then, whatever its RefId and its Mode.
func TestKiss(t *testing.T) {
	for _, id := range refIds() {
		for stratum := range 256 {
			for _, mode := range []byte{0, 3, 4, 5, 255} {
				check(t, api.Packet{Mode: mode, Stratum: byte(stratum), RefId: id, Rec: 1, Xmt: 1})
			}
		}
	}
}

// near are texts that differ from the code in one letter, in its case, or by one letter more or fewer.
func near(code string) []string {
	list := []string{strings.ToLower(code), code[:1] + strings.ToLower(code[1:]), code + code, " " + code, code + " "}
	for at := range len(code) + 1 {
		for letter := range 256 {
			more := string([]byte{byte(letter)})
			list = append(list, code[:at]+more+code[at:])
			if at < len(code) && code[at] != byte(letter) {
				list = append(list, code[:at]+more+code[at+1:])
			}
		}
		if at < len(code) {
			list = append(list, code[:at]+code[at+1:], code[:at], code[at+1:], code[:at]+strings.ToLower(code[at:at+1])+code[at+1:])
		}
	}
	return list
}

// P8.1: three codes ask for something, and no text but they.
func TestAct(t *testing.T) {
	known := map[string]int{"RATE": 1, "DENY": 2, "RSTR": 2}
	for code, act := range known {
		if got := sane.Act(code); got != act {
			t.Errorf("Act(%q) = %d; want %d", code, got, act)
		}
		for _, other := range near(code) {
			if got := sane.Act(other); got != 0 {
				t.Errorf("Act(%q) = %d", other, got)
			}
		}
	}
	for _, code := range []string{"", "\x00", "INIT", "STEP", "DROP", "AUTH", "AUTO", "ACST", "BCST", "CRYP", "MCST", "NKEY", "NTSN", "RMOT",
		"X", "RATERATE", "DENYRSTR", "RSTD", "RTSR", "ETAR", "1", "2", "\xff\xff\xff\xff", strings.Repeat("RATE", 1_000)} {
		if got := sane.Act(code); got != 0 {
			t.Errorf("Act(%q) = %d", code, got)
		}
	}
}

// P8.1: what a kiss asks for, from its RefId on.
func TestActOfKiss(t *testing.T) {
	for id, act := range map[uint32]int{rateId: 1, denyId: 2, rstrId: 2, initId: 0, gpsId: 0, 0: 0, 0x52415400: 0, 0x00524154: 0, 0x72617465: 0,
		0x45544152: 0, rateId + 1: 0, rateId - 1: 0, denyId + 1: 0, rstrId - 1: 0} {
		code, kiss := sane.Kiss(api.Packet{Mode: 4, RefId: id})
		if got := sane.Act(code); got != act || !kiss {
			t.Errorf("the RefId %08x asks for %d, %t; want %d", id, got, kiss, act)
		}
	}
}
