package asm_test

import (
	"math/rand"
	"slices"
	"strings"
	"testing"

	"stockade/api"
	"stockade/asm"
)

func TestP3_2_Rows(t *testing.T) {
	for _, x := range rows() {
		if l, n, e := asm.Parse(x.text); !slices.Equal(l, x.code) || n != 0 || e != api.OK {
			t.Errorf("%q: %+v, %d, %d", x.text, l, n, e)
		}
	}
}

func TestP3_2_NoLine(t *testing.T) {
	for _, line := range []string{
		"", " ", "x", "exit ", " exit", "exit\r", "Exit", "EXIT", "exit 0", "exit64", "exit\t", "exit;", "exit\x00", "\x00", "\xff", "64", "32 r1, 0", "64 r1, 0, +0", "32 r1, 0, +0", "r1", ", ", "-", "0",
		// names
		"nop", "mov r1, 5", "mov16 r1, 5", "mov8 r1, 5", "mov640 r1, 5", "mov064 r1, 5", "Mov64 r1, 5", "move64 r1, 5", "mo64 r1, 5", "64mov r1, 5", "mov64", "mov64 ", "mov 64 r1, 5", "ja64 r1, 0, +0", "jsett64 r1, 0, +0", "jeq r1, 0, +0", "jeq16 r1, 0, +0",
		"swap8 r1", "swap r1", "swap0 r1", "swap12 r1", "swap24 r1", "swap128 r1", "swap016 r1", "swap-16 r1", "swap16 r1, 0", "swap16 r1, r2", "load r1, r2+0", "load4 r1, r2+0", "load24 r1, r2+0", "load0 r1, r2+0", "load128 r1, r2+0", "load08 r1, r2+0", "load18446744073709551624 r1, r2+0", "store r1+0, r2", "store12 r1+0, r2", "put r1+0, 2", "put9 r1+0, 2",
		"goto64 +0", "call32 1", "const64 r1, 0", "map64 r1, 0", "neg r1", "neg64 r1, 0", "neg64 r1, r2", "neg16 r1", "neg64",
		// blanks and marks
		"mov64 r1,5", "mov64  r1, 5", "mov64 r1 , 5", "mov64 r1,  5", "mov64 r1, 5 ", "mov64 r1 5", "mov64\tr1, 5", " mov64 r1, 5", "mov64 r1; 5", "mov64 r1, 5,", "mov64 r1, 5, 6", "mov64 r1, ", "mov64 r1,", "mov64 r1", "mov64 , 5", "mov64 5, 5", "mov64 5, r1",
		"load32 r1, r2", "load32 r1, r2 +4", "load32 r1, [r2+4]", "load32 r1, 2+4", "load32 r1+4, r2", "load32 r1,r2+4", "store8 r10, r1", "store8 r10-8, 1", "store8 r10 -8, r1", "store8 r10-8 r1", "store8 r1, r10-8", "put64 r10+0, r7", "put64 r10, 7", "put64 10+0, 7", "put64 r10+0,7",
		"jeq64 r1, 0", "jeq64 r1, +3", "jeq64 r1, 0, 3", "jeq64 r1, 0 +3", "jeq64 r1, 0,+3", "jeq64 r1, 0, +3 ", "jeq64 r1, r0", "jeq64 1, 0, +3", "jeq64 r1, 0, r3", "jeq64 r1, r0, r3", "jeq64 r1, 5, , r0, +3", "mov64 r1, 5, r2",
		"goto", "goto ", "goto 2", "goto+2", "goto +", "goto -", "goto +2, 1", "goto r1", "call", "call ", "call +1", "call r1", "call 1, 2", "const r1", "const r1, r2", "const 1, 2", "map r1", "map r1, r2", "map 1",
		// registers
		"mov64 r10, 1", "mov64 r11, 1", "mov64 r01, 1", "mov64 r+1, 1", "mov64 r-1, 1", "mov64 r, 1", "mov64 R1, 1", "mov64 rr1, 1", "mov64 r256, 1", "mov64 r257, 1", "mov64 r18446744073709551617, 1", "mov64 r1, r11", "mov64 r1, r", "mov64 r1, r01", "mov64 r1, r266", "mov64 r1, R2", "neg64 r10", "swap16 r10", "load8 r10, r1+0", "load8 r1, r11+0", "store8 r11+0, r1", "store8 r1+0, r11", "put8 r11+0, 1", "jeq64 r11, 0, +0", "jeq64 r1, r11, +0", "const r10, 1", "map r10, 1",
		// numbers
		"mov64 r1, 05", "mov64 r1, 00", "mov64 r1, +5", "mov64 r1, -0", "mov64 r1, -05", "mov64 r1, --5", "mov64 r1, -", "mov64 r1, 0x5", "mov64 r1, 1_0", "mov64 r1, 5.", "mov64 r1, 5e1", "mov64 r1, 2147483648", "mov64 r1, -2147483649", "mov64 r1, 4294967296", "mov64 r1, 99999999999999999999999999", "mov64 r1, -99999999999999999999999999", "mov64 r1, ٣", "mov64 r1, １",
		"call -0", "call 01", "call 2147483648", "map r1, 2147483648", "map r1, -2147483649", "map r1, -0", "put8 r1+0, -0", "put8 r1+0, 01", "put8 r1+0, 2147483648",
		"const r1, -1", "const r1, -0", "const r1, 00", "const r1, 01", "const r1, +1", "const r1, 18446744073709551616", "const r1, 184467440737095516150", "const r1, ", "const r1, 0x1",
		// offsets
		"goto +-1", "goto -+1", "goto ++1", "goto --1", "goto -0", "goto +00", "goto +01", "goto -01", "goto +32768", "goto -32769", "goto +65536", "goto +99999999999999999999", "load8 r1, r2-0", "load8 r1, r2+04", "load8 r1, r2+32768", "load8 r1, r2+-4", "store8 r1-0, r2", "store8 r1-32769, r2", "jeq64 r1, 0, -0", "jeq64 r1, 0, +032", "jeq64 r1, r2, +32768",
	} {
		for before := range 3 {
			s := strings.Repeat("goto +0\n", before) + line + "\n"
			for _, behind := range []string{"", "exit\n", "x", line} {
				if l, n, e := asm.Parse(s + behind); len(l) != 0 || n != before+1 || e != api.ErrForm {
					t.Fatalf("%q: %+v, %d, %d", s+behind, l, n, e)
				}
			}
		}
	}
}

func TestP3_2_NoEnd(t *testing.T) {
	for _, x := range []struct {
		s    string
		line int
	}{{"exit", 1}, {"mov64 r1, 5", 1}, {"exit\nexit", 2}, {"exit\n\n", 2}, {"\n", 1}, {"\nexit\n", 1}, {"exit\n\nexit\n", 2}, {"exit\n ", 2}, {"exit\r\n", 1}, {"exit\nexit\x00", 2}} {
		if l, n, e := asm.Parse(x.s); len(l) != 0 || n != x.line || e != api.ErrForm {
			t.Errorf("%q: %+v, %d, %d", x.s, l, n, e)
		}
	}
}

func TestP3_2_Length(t *testing.T) {
	exits := func(n int) string { return strings.Repeat("exit\n", n) }
	for _, x := range []struct {
		s    string
		line int
		e    api.Errno
	}{
		{exits(511), 0, api.OK},
		{exits(512), 0, api.OK},
		{exits(513), 513, api.ErrLong},
		{exits(600), 513, api.ErrLong},
		// in one line, what is none goes ahead; in unlike lines, the first one
		{exits(512) + "x", 513, api.ErrForm},
		{exits(512) + "\n", 513, api.ErrForm},
		{exits(512) + "exit", 513, api.ErrForm},
		{exits(513) + "x", 513, api.ErrLong},
		{exits(10) + "x\n" + exits(600), 11, api.ErrForm},
		{exits(510) + "const r1, 5\n", 0, api.OK},
		{exits(511) + "const r1, 5\n", 512, api.ErrLong},
		{exits(511) + "map r1, 5\n", 512, api.ErrLong},
		{exits(511) + "map r1, 5", 512, api.ErrForm},
		{exits(512) + "map r1, 5\n", 513, api.ErrLong},
		{strings.Repeat("const r1, 5\n", 256), 0, api.OK},
		{strings.Repeat("const r1, 5\n", 257), 257, api.ErrLong},
		{"exit\n" + strings.Repeat("map r1, 5\n", 256), 257, api.ErrLong},
		// the bytes
		{strings.Repeat("x", 65535) + "\n", 1, api.ErrForm},
		{strings.Repeat("x", 65536), 1, api.ErrForm},
		{strings.Repeat("x", 65537), 0, api.ErrLong},
		{exits(513) + strings.Repeat("x", 65536-5*513), 513, api.ErrLong},
		{exits(513) + strings.Repeat("x", 65537-5*513), 0, api.ErrLong},
		{"mov64 r1, " + strings.Repeat("9", 65500) + "\n", 1, api.ErrForm},
		{strings.Repeat("\n", 65536), 1, api.ErrForm},
		{strings.Repeat("\n", 1<<20), 0, api.ErrLong},
	} {
		l, n, e := asm.Parse(x.s)
		if n != x.line || e != x.e || e != api.OK && len(l) != 0 {
			t.Errorf("%.30q, %d bytes: %d places, %d, %d", x.s, len(x.s), len(l), n, e)
		}
	}
}

func TestP3_2_NoBytes(t *testing.T) {
	if l, n, e := asm.Parse(""); len(l) != 0 || n != 0 || e != api.OK {
		t.Error(l, n, e)
	}
}

// edited: the text with a byte or a number of it changed.
func edited(chance *rand.Rand, s string) string {
	const bytes = "0123456789+-, r\nxabdegjlmnopst\x00\xff"
	at := chance.Intn(len(s) + 1)
	put := string(bytes[chance.Intn(len(bytes))])
	switch chance.Intn(5) {
	case 0:
		return s[:at] + put + s[at:]
	case 1:
		return s[:at]
	case 2:
		words := []string{"32768", "-32769", "2147483648", "-2147483649", "18446744073709551616", "18446744073709551615", "-1", "10", "11", "64", "r10", "r9", "neg", "swap", "const", "map", ", r1", "+0", "-0", "00"}
		return s[:at] + words[chance.Intn(len(words))] + s[min(len(s), at+chance.Intn(4)):]
	case 3:
		if at < len(s) {
			return s[:at] + put + s[at+1:]
		}
	}
	return s[:at] + s[min(len(s), at+1):]
}

// Lines that are nearly some, held against the chapter's forms.
func TestP3_2_Forms(t *testing.T) {
	chance, ops := rand.New(rand.NewSource(32)), allOps()
	taken := 0
	for range 200000 {
		s := edited(chance, textOf(some(chance, ops)))
		if chance.Intn(2) == 0 {
			s = edited(chance, s)
		}
		var want []api.Insn
		line, e := 0, api.OK
		for n, part := range strings.SplitAfter(s, "\n") {
			if part == "" {
				continue
			}
			code, is := codeOf(part)
			if !is {
				want, line, e = nil, n+1, api.ErrForm
				break
			}
			want = append(want, code...)
		}
		if e == api.OK {
			taken++
		}
		if l, n, f := asm.Parse(s); !slices.Equal(l, want) || n != line || f != e {
			t.Fatalf("%q: %+v, %d, %d, not %+v, %d, %d", s, l, n, f, want, line, e)
		}
	}
	if taken < 10000 {
		t.Error("too few lines are left: ", taken)
	}
}

func TestP3_2_NewMemory(t *testing.T) {
	const s = "mov64 r1, 5\nconst r2, 7\nexit\n"
	l, _, _ := asm.Parse(s)
	want := slices.Clone(l)
	clear(l[:cap(l)])
	if l, n, e := asm.Parse(s); !slices.Equal(l, want) || n != 0 || e != api.OK {
		t.Error(l, n, e)
	}
}
