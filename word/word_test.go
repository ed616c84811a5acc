package word

import (
	"testing"

	"selfsame/api"
)

var some = []uint32{0, 1, 2, 3, 7, 31, 32, 33, 255, 256, 65535, 65536, 1<<31 - 1, 1 << 31, 1<<31 + 1, 1<<32 - 7, 1<<32 - 2, 1<<32 - 1, 1999999999, 0xaaaaaaaa, 0x90a9f0fa}

// P1.1
func TestAddSub(t *testing.T) {
	for _, a := range some {
		for _, b := range some {
			for n, c := range []bool{false, true} {
				sum := uint64(a) + uint64(b) + uint64(n)
				signed := int64(int32(a)) + int64(int32(b)) + int64(n)
				if s, p, o := Add(a, b, c); s != uint32(sum) || p != (sum >= 1<<32) || o != (signed > 1<<31-1 || signed < -1<<31) {
					t.Error("Add", a, b, c, s, p, o)
				}
				diff := int64(a) - int64(b) - int64(n)
				signed = int64(int32(a)) - int64(int32(b)) - int64(n)
				if s, p, o := Sub(a, b, c); s != uint32(diff) || p != (diff < 0) || o != (signed > 1<<31-1 || signed < -1<<31) {
					t.Error("Sub", a, b, c, s, p, o)
				}
				// P1.5
				s, _, _ := Add(a, b, c)
				if d, _, _ := Sub(s, b, c); d != a {
					t.Error("Sub of Add", a, b, c, d)
				}
			}
		}
	}
}

// P1.1, P1.5
func TestMulDiv(t *testing.T) {
	for _, a := range some {
		for _, b := range some {
			if l, h := Mul(a, b, false); uint64(h)<<32|uint64(l) != uint64(a)*uint64(b) {
				t.Error("Mul", a, b, l, h)
			}
			if l, h := Mul(a, b, true); int64(uint64(h)<<32|uint64(l)) != int64(int32(a))*int64(int32(b)) {
				t.Error("Mul signed", a, b, l, h)
			}
			q, r, e := Div(a, b)
			if int32(b) <= 0 {
				if q != 0 || r != 0 || e != api.ErrArg {
					t.Error("Div", a, b, q, r, e)
				}
				continue
			}
			if e != api.OK || q*b+r != a || int32(r) < 0 || r >= b {
				t.Error("Div", a, b, q, r, e)
			}
		}
	}
	if q, r, _ := Div(1<<32-7, 2); q != 1<<32-4 || r != 1 {
		t.Error(q, r)
	}
	if l, h := Mul(1<<32-1, 2, true); l != 1<<32-2 || h != 1<<32-1 {
		t.Error(l, h)
	}
}

// P1.2, P1.5
func TestShifts(t *testing.T) {
	for _, a := range some {
		for _, n := range some {
			k := n % 32
			if Left(a, n) != uint32(uint64(a)<<k) || Right(a, n) != uint32(int64(int32(a))>>k) || Turn(a, n) != uint32(uint64(a)<<32>>k|uint64(a)>>k) && k > 0 {
				t.Error(a, n, Left(a, n), Right(a, n), Turn(a, n))
			}
		}
		x := a
		for range 32 {
			x = Turn(x, 1)
		}
		if x != a || Turn(a, 0) != a || Turn(1, 1) != 1<<31 {
			t.Error("Turn", a, x)
		}
		for _, b := range some {
			if Less(a, b) != (int32(a) < int32(b)) {
				t.Error("Less", a, b)
			}
		}
	}
	for _, x := range []struct {
		a, want uint32
		bits    int
	}{{5, 1<<32 - 3, 3}, {5, 5, 4}, {1, 1<<32 - 1, 1}, {2, 0, 1}, {1, 1<<32 - 1, 0}, {1, 1<<32 - 1, -9}, {1 << 31, 1 << 31, 32}, {1 << 31, 1 << 31, 40}, {0xffff8000, 0x8000 - 1<<16 + 1<<32, 16}, {0x17fff, 0x7fff, 16}} {
		if Extend(x.a, x.bits) != x.want {
			t.Error(x, Extend(x.a, x.bits))
		}
	}
}

// P1.3, P1.5
func TestBytes(t *testing.T) {
	if string(Bytes(0x04030201, 1<<31)) != "\x01\x02\x03\x04\x00\x00\x00\x80" || len(Bytes()) != 0 {
		t.Error(Bytes(0x04030201, 1<<31))
	}
	l, e := Of(Bytes(some...))
	if e != api.OK || len(l) != len(some) {
		t.Fatal(l, e)
	}
	for i := range l {
		if l[i] != some[i] {
			t.Error(i, l[i])
		}
	}
	for _, n := range []int{1, 2, 3, 5, 7} {
		if l, e := Of(make([]byte, n)); l != nil || e != api.ErrBytes {
			t.Error(n, l, e)
		}
	}
	if l, e := Of(nil); len(l) != 0 || e != api.OK {
		t.Error(l, e)
	}
}

// P1.4, P1.5
func TestTexts(t *testing.T) {
	for _, a := range some {
		if x, e := OfDec(Dec(a)); x != a || e != api.OK {
			t.Error(a, Dec(a), x, e)
		}
		if x, e := OfHex(Hex(a)); x != a || e != api.OK {
			t.Error(a, Hex(a), x, e)
		}
	}
	if Dec(1<<32-5) != "-5" || Dec(1<<31) != "-2147483648" || Hex(10) != "0000000a" || Hex(0xfedcba98) != "fedcba98" {
		t.Error(Dec(1<<32-5), Hex(10))
	}
	for _, s := range []string{"", "-", "-0", "00", "01", "-01", "+1", " 1", "1 ", "1-", "--1", "2147483648", "-2147483649", "4294967296", "18446744073709551617", "99999999999999999999999999", "1a", "é", "\xff"} {
		if a, e := OfDec(s); a != 0 || e != api.ErrBytes {
			t.Error(s, a, e)
		}
	}
	for _, s := range []string{"", "0", "0000000", "000000000", "0000000A", "0000000g", "-0000001", "000000é", "0000000\xff", "0000 000"} {
		if a, e := OfHex(s); a != 0 || e != api.ErrBytes {
			t.Error(s, a, e)
		}
	}
}
