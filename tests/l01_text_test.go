package tests

import (
	"math"
	"slices"
	"strings"
	"testing"

	"loop.example/g00814/impl"
)

// Promise 1: numbers come back from their texts and their bytes; a sum tells of one byte that was changed.

func TestDecText(t *testing.T) {
	for _, c := range []struct {
		n    int
		want string
	}{
		{0, "0"},
		{7, "7"},
		{-1, "-1"},
		{-120, "-120"},
		{100, "100"},
		{999999999, "999999999"},
		{1000000000, "1000000000"},
		{math.MaxInt, "9223372036854775807"},
		{math.MinInt, "-9223372036854775808"},
	} {
		if got := impl.DecText(c.n); got != c.want {
			t.Errorf("DecText(%d) = %q, want %q", c.n, got, c.want)
		}
	}
}

func TestReadDecReadsDecText(t *testing.T) {
	check := func(n int) {
		if got := impl.ReadDec(impl.DecText(n)); got != n {
			t.Errorf("ReadDec(DecText(%d)) = %d", n, got)
		}
	}
	for n := range 20000 {
		check(n)
	}
	for n := 1; n <= 100000000; n *= 10 {
		check(n - 1)
		check(n)
		check(9 * n)
	}
	check(123456789)
	check(987654321)
	check(999999998)
	check(999999999)
}

func TestReadDecRefuses(t *testing.T) {
	for _, s := range []string{
		"", "1000000000", "9999999999", "4294967296", "18446744073709551616", "18446744073709551617",
		strings.Repeat("9", 1000), strings.Repeat("0", 1000) + "1",
		"00", "01", "012", "0000000001", "-0", "-1", "-120", "+1",
		" 1", "1 ", "\t1", "1\n", "1 2", "1.0", "1e3", "1_000", "0x1", "a", "-", "+", ".",
		"12a", "a12", "1/2", "1:2", "/", ":", "\x00", "1\x00", "\xff", "1\xff", "\u0661", "\uff11",
	} {
		if got := impl.ReadDec(s); got != -1 {
			t.Errorf("ReadDec(%q) = %d, want -1", s, got)
		}
	}
}

// Every byte stands once alone and once at either side of a digit.
func TestReadDecEachByte(t *testing.T) {
	for b := range 256 {
		s := string([]byte{byte(b)})
		digit := b >= '0' && b <= '9'
		alone, behind, ahead := -1, -1, -1
		if digit {
			alone, behind = b-'0', 10+b-'0'
		}
		if digit && b != '0' {
			ahead = 10*(b-'0') + 1
		}
		if got := impl.ReadDec(s); got != alone {
			t.Errorf("ReadDec(%q) = %d, want %d", s, got, alone)
		}
		if got := impl.ReadDec("1" + s); got != behind {
			t.Errorf("ReadDec(%q) = %d, want %d", "1"+s, got, behind)
		}
		if got := impl.ReadDec(s + "1"); got != ahead {
			t.Errorf("ReadDec(%q) = %d, want %d", s+"1", got, ahead)
		}
	}
}

func TestLines(t *testing.T) {
	for _, c := range []struct {
		s    string
		want []string
	}{
		{"", nil},
		{"a", []string{"a"}},
		{"a\nb", []string{"a", "b"}},
		{"\n", []string{"", ""}},
		{"\n\n", []string{"", "", ""}},
		{"a\n", []string{"a", ""}},
		{"\na", []string{"", "a"}},
		{"a\n\nb\n", []string{"a", "", "b", ""}},
		{"a\r\nb\rc", []string{"a\r", "b\rc"}},
		{" a \n\tb", []string{" a ", "\tb"}},
		{" ", []string{" "}},
		{"\x00\n\xff\n\xc3", []string{"\x00", "\xff", "\xc3"}},
		{"\u2028\v\f\u0085", []string{"\u2028\v\f\u0085"}},
	} {
		if got := impl.Lines(c.s); !slices.Equal(got, c.want) {
			t.Errorf("Lines(%q) = %q, want %q", c.s, got, c.want)
		}
	}
}

func TestWords(t *testing.T) {
	for _, c := range []struct {
		s    string
		want []string
	}{
		{"", nil},
		{" ", nil},
		{"\t", nil},
		{" \t\t  \t", nil},
		{"a", []string{"a"}},
		{"abc", []string{"abc"}},
		{" a", []string{"a"}},
		{"a ", []string{"a"}},
		{"\ta\t", []string{"a"}},
		{"a b", []string{"a", "b"}},
		{"a\tb", []string{"a", "b"}},
		{"a \t b", []string{"a", "b"}},
		{" a\tbc  d", []string{"a", "bc", "d"}},
		{"  submit 1  2\t3 \t", []string{"submit", "1", "2", "3"}},
		{"b a b a", []string{"b", "a", "b", "a"}},
		{"a\nb c", []string{"a\nb", "c"}},
		{"\n", []string{"\n"}},
		{"a\rb\vc\fd\x00e", []string{"a\rb\vc\fd\x00e"}},
		{"a\u00a0b\u2003c\u0085d", []string{"a\u00a0b\u2003c\u0085d"}},
		{"\xff \xc3\t\x80", []string{"\xff", "\xc3", "\x80"}},
	} {
		if got := impl.Words(c.s); !slices.Equal(got, c.want) {
			t.Errorf("Words(%q) = %q, want %q", c.s, got, c.want)
		}
	}
}

// Of all bytes just the blank and byte 9 part words, and just byte 10 parts lines.
func TestPartingBytes(t *testing.T) {
	for b := range 256 {
		s := "a" + string([]byte{byte(b)}) + "b"
		words, lines := 1, 1
		if b == 32 || b == 9 {
			words = 2
		}
		if b == 10 {
			lines = 2
		}
		if got := impl.Words(s); len(got) != words {
			t.Errorf("Words(%q) = %q, want %d of them", s, got, words)
		}
		if got := impl.Lines(s); len(got) != lines {
			t.Errorf("Lines(%q) = %q, want %d of them", s, got, lines)
		}
	}
}

// Joined again, the parts of all short texts are those texts.
func TestPartsComeBack(t *testing.T) {
	for _, s := range shortTexts("a\n \t", 6) {
		lines := impl.Lines(s)
		if strings.Join(lines, "\n") != s || s == "" && len(lines) != 0 || s != "" && len(lines) != strings.Count(s, "\n")+1 {
			t.Errorf("Lines(%q) = %q", s, lines)
		}
		words := impl.Words(s)
		want := strings.FieldsFunc(s, func(r rune) bool { return r == ' ' || r == '\t' })
		if !slices.Equal(words, want) {
			t.Errorf("Words(%q) = %q, want %q", s, words, want)
		}
	}
}

// shortTexts are all texts of at most so many of these signs.
func shortTexts(signs string, most int) []string {
	texts := []string{""}
	for from := 0; most > 0; most-- {
		upTo := len(texts)
		for _, s := range texts[from:upTo] {
			for _, sign := range signs {
				texts = append(texts, s+string(sign))
			}
		}
		from = upTo
	}
	return texts
}

func TestPutNum(t *testing.T) {
	for _, c := range []struct {
		n, bytes int
		want     string
	}{
		{0, 1, "\x00"},
		{0, 4, "\x00\x00\x00\x00"},
		{1, 1, "\x01"},
		{255, 1, "\xff"},
		{256, 1, "\x00"},
		{258, 1, "\x02"},
		{258, 2, "\x01\x02"},
		{258, 3, "\x00\x01\x02"},
		{0x01020304, 1, "\x04"},
		{0x01020304, 2, "\x03\x04"},
		{0x01020304, 3, "\x02\x03\x04"},
		{0x01020304, 4, "\x01\x02\x03\x04"},
		{0xfffefdfc, 4, "\xff\xfe\xfd\xfc"},
		{0x0102030405, 4, "\x02\x03\x04\x05"},
		{1 << 32, 4, "\x00\x00\x00\x00"},
		{math.MaxInt, 4, "\xff\xff\xff\xff"},
	} {
		if got := impl.PutNum(c.n, c.bytes); got != c.want {
			t.Errorf("PutNum(%d, %d) = %q, want %q", c.n, c.bytes, got, c.want)
		}
	}
}

func TestPutNumRefuses(t *testing.T) {
	for _, bytes := range []int{math.MinInt, -4, -1, 0, 5, 6, 8, 255, 256, 257, math.MaxInt} {
		if got := impl.PutNum(1, bytes); got != "" {
			t.Errorf("PutNum(1, %d) = %q", bytes, got)
		}
	}
	for bytes := 1; bytes <= 4; bytes++ {
		for _, n := range []int{-1, -2, -255, -256, math.MinInt + 1, math.MinInt} {
			if got := impl.PutNum(n, bytes); got != "" {
				t.Errorf("PutNum(%d, %d) = %q", n, bytes, got)
			}
		}
	}
}

func TestGetNum(t *testing.T) {
	s := "\x00\x01\x02\xff\xfe\xfd"
	for _, c := range []struct{ at, bytes, want int }{
		{0, 1, 0},
		{0, 2, 1},
		{0, 3, 0x000102},
		{0, 4, 0x000102ff},
		{1, 2, 0x0102},
		{1, 4, 0x0102fffe},
		{2, 4, 0x02fffefd},
		{3, 1, 0xff},
		{3, 3, 0xfffefd},
		{4, 2, 0xfefd},
		{5, 1, 0xfd},
	} {
		if got := impl.GetNum(s, c.at, c.bytes); got != c.want {
			t.Errorf("GetNum(%q, %d, %d) = %d, want %d", s, c.at, c.bytes, got, c.want)
		}
	}
	if got := impl.GetNum("\xff\xff\xff\xff", 0, 4); got != math.MaxUint32 {
		t.Errorf("GetNum of four bytes 255 = %d", got)
	}
}

func TestGetNumRefuses(t *testing.T) {
	for _, c := range []struct {
		s         string
		at, bytes int
	}{
		{"", 0, 1},
		{"a", 1, 1},
		{"a", 0, 2},
		{"abc", 0, 4},
		{"abcd", 1, 4},
		{"abcd", 4, 1},
		{"abcd", 5, 1},
		{"abcd", 3, 2},
		{"abcd", -1, 1},
		{"abcd", -1, 4},
		{"abcd", -4, 4},
		{"abcd", 0, 0},
		{"abcd", 4, 0},
		{"abcd", 0, -1},
		{"abcd", 2, -1},
		{"abcdefgh", 0, 5},
		{"abcdefgh", 0, 8},
		{"abcd", math.MaxInt, 1},
		{"abcd", math.MaxInt, 4},
		{"abcd", math.MaxInt - 1, 2},
		{"abcd", math.MaxInt - 3, 4},
		{"abcd", math.MinInt, 1},
		{"abcd", math.MinInt, 4},
		{"abcd", 0, math.MaxInt},
		{"abcd", 0, math.MinInt},
		{"abcd", math.MaxInt, math.MaxInt},
		{"abcd", math.MaxInt, math.MinInt},
		{"abcd", math.MinInt, math.MinInt},
		{"abcd", math.MinInt, math.MaxInt},
	} {
		if got := impl.GetNum(c.s, c.at, c.bytes); got != -1 {
			t.Errorf("GetNum(%q, %d, %d) = %d, want -1", c.s, c.at, c.bytes, got)
		}
	}
}

func TestGetNumReadsPutNum(t *testing.T) {
	for bytes := 1; bytes <= 4; bytes++ {
		limit := 1 << (8 * bytes)
		for _, n := range []int{0, 1, 9, 127, 128, 255, 256, 257, 9999, 60000, 65535, 65536, 1<<24 - 1, 1 << 24, 1 << 31, limit / 2, limit - 2, limit - 1, limit, limit + 1, math.MaxInt} {
			put := impl.PutNum(n, bytes)
			if len(put) != bytes {
				t.Fatalf("PutNum(%d, %d) = %q", n, bytes, put)
			}
			// The lowest bytes of a number are its rest by the limit.
			if got := impl.GetNum(put, 0, bytes); got != n%limit {
				t.Errorf("GetNum(PutNum(%d, %d)) = %d, want %d", n, bytes, got, n%limit)
			}
			if got := impl.GetNum("ab"+put+"c", 2, bytes); got != n%limit {
				t.Errorf("GetNum(PutNum(%d, %d)) at place 2 = %d, want %d", n, bytes, got, n%limit)
			}
		}
	}
	for n := range 65536 {
		if got := impl.GetNum(impl.PutNum(n, 2), 0, 2); got != n {
			t.Fatalf("GetNum(PutNum(%d, 2)) = %d", n, got)
		}
	}
}

func TestCheck(t *testing.T) {
	for _, c := range []struct {
		s    string
		want int
	}{
		{"", 0},
		{"\x00", 0},
		{"\x00\x00", 0},
		{"\x01", 256 + 1},
		{"\x01\x02", 256*4 + 3},
		{"\x02\x01", 256*5 + 3},
		{"\x01\x00", 256*2 + 1},
		{"\x00\x01", 256*1 + 1},
		{"\xfe", 256*254 + 254},
		{"\xff", 0},
		{"\xff\xff", 0},
		{"\xff\x01", 256 + 1},
		{"\x01\xff", 256*2 + 1},
		{"\xfe\x01", 256*254 + 0},
		{"\xfe\x02", 256*0 + 1},
		{"\xfe\xfe", 256*252 + 253},
		{"abcde", 51440},
		{"abcdef", 8279},
		{"abcdefgh", 1575},
		{strings.Repeat("\x01", 255), 0},
		{strings.Repeat("\x01", 256), 256 + 1},
		{strings.Repeat("\xfe", 510), 0},
	} {
		if got := impl.Check(c.s); got != c.want {
			t.Errorf("Check(%q) = %d, want %d", c.s, got, c.want)
		}
	}
}

// A sum by 255 can't tell bytes 0 and 255 apart; any other change of one byte it tells.
func TestCheckTellsOfOneByte(t *testing.T) {
	long := strings.Repeat("\x00\xff\x7fzq", 60)
	for _, s := range []string{"\x00", "\xff", "knock", "\x00\x00\x00", "\xff\xff", "\x01\xff\x00\xfe", long} {
		sum := impl.Check(s)
		changed := []byte(s)
		for at := range changed {
			for b := range 256 {
				changed[at] = byte(b)
				same := int(s[at])%255 == b%255
				if got := impl.Check(string(changed)); (got == sum) != same {
					t.Fatalf("Check(%q) = %d with byte %d at place %d, and %d with byte %d", s, sum, s[at], at, got, b)
				}
			}
			changed[at] = s[at]
		}
	}
}

// Promise 15: every function answers at any arguments, and writes into none.

func TestTextsAnswerAnything(t *testing.T) {
	numbers := []int{math.MinInt, math.MinInt + 1, math.MinInt + 4, -1 << 32, -256, -5, -4, -1, 0, 1, 2, 3, 4, 5, 8, 255, 256, 1 << 32, math.MaxInt - 4, math.MaxInt - 1, math.MaxInt}
	texts := append(shortTexts("0\n\t \u00ff", 4), strings.Repeat("\xff", 5000), strings.Repeat(" ", 5000), strings.Repeat("\n", 5000), strings.Repeat("1", 5000))
	for _, s := range texts {
		impl.ReadDec(s)
		impl.Lines(s)
		impl.Words(s)
		if sum := impl.Check(s); sum < 0 || sum/256 > 254 || sum%256 > 254 {
			t.Errorf("Check(%q) = %d", s, sum)
		}
		for _, at := range numbers {
			for _, bytes := range numbers {
				right := bytes >= 1 && bytes <= 4 && at >= 0 && at <= len(s) && bytes <= len(s)-at
				got := impl.GetNum(s, at, bytes)
				if (got >= 0) != right {
					t.Errorf("GetNum(%q, %d, %d) = %d", s, at, bytes, got)
				}
			}
		}
	}
	for _, n := range numbers {
		impl.DecText(n)
		for _, bytes := range numbers {
			if got := impl.PutNum(n, bytes); got != "" && len(got) != bytes {
				t.Errorf("PutNum(%d, %d) = %q", n, bytes, got)
			}
		}
	}
}

// What is done to one answer is seen in no other one.
func TestTextsKeepNothing(t *testing.T) {
	for name, parts := range map[string]func(string) []string{"Lines": impl.Lines, "Words": impl.Words} {
		s, want := "a\nb c\nd", parts("a\nb c\nd")
		first := parts(s)
		for i := range first {
			first[i] = "x"
		}
		_ = append(first[:1], "y", "z")
		if got := parts(s); !slices.Equal(got, want) {
			t.Errorf("%s(%q) = %q, and %q ahead", name, s, got, want)
		}
	}
}
