package tests

import (
	"encoding/binary"
	"fmt"
	"hash/crc32"
	"math"
	"strings"
	"testing"

	"loop.example/g00770/impl"
)

// The longest number, the least and the greatest one, and those at which a byte more is needed.
var numBytes = []struct {
	n    int64
	text string
}{
	{0, "\x00"},
	{-1, "\x01"},
	{1, "\x02"},
	{-2, "\x03"},
	{63, "\x7e"},
	{-64, "\x7f"},
	{64, "\x80\x01"},
	{-65, "\x81\x01"},
	{150, "\xac\x02"},
	{8191, "\xfe\x7f"},
	{-8192, "\xff\x7f"},
	{8192, "\x80\x80\x01"},
	{1<<62 - 1, "\xfe\xff\xff\xff\xff\xff\xff\xff\x7f"},
	{-1 << 62, "\xff\xff\xff\xff\xff\xff\xff\xff\x7f"},
	{1 << 62, "\x80\x80\x80\x80\x80\x80\x80\x80\x80\x01"},
	{math.MaxInt64, "\xfe\xff\xff\xff\xff\xff\xff\xff\xff\x01"},
	{math.MinInt64, "\xff\xff\xff\xff\xff\xff\xff\xff\xff\x01"},
}

func wantNum(t *testing.T, text string, at int64, want impl.NumOut) {
	t.Helper()
	if got := impl.GetNum(text, at); got != want {
		t.Errorf("GetNum(%.40q, %d): got %+v, want %+v", text, at, got, want)
	}
}

// The longest texts would bury what a failing test says.
func brief(o impl.TextOut) string {
	return fmt.Sprintf("%.40q (%d bytes) at %d, code %d", o.Text, len(o.Text), o.At, o.Code)
}

func wantText(t *testing.T, text string, at int64, want impl.TextOut) {
	t.Helper()
	if got := impl.GetText(text, at); got != want {
		t.Errorf("GetText(%.40q, %d): got %s, want %s", text, at, brief(got), brief(want))
	}
}

func wantUnseal(t *testing.T, text string, want impl.TextOut) {
	t.Helper()
	if got := impl.Unseal(text); got != want {
		t.Errorf("Unseal(%.40q): got %s, want %s", text, brief(got), brief(want))
	}
}

func TestConstants(t *testing.T) {
	codes := []int64{impl.OK, impl.ErrForm, impl.ErrSize, impl.ErrSyntax, impl.ErrShort, impl.ErrSum, impl.ErrNone,
		impl.ErrThere, impl.ErrRange, impl.ErrFull, impl.ErrState, impl.ErrKind, impl.ErrMove}
	for i, c := range codes {
		if c != int64(i) {
			t.Errorf("code %d is %d", i, c)
		}
	}
	if impl.MaxBytes != 8000 || impl.MaxList != 400 || impl.MaxTime != 1000000 {
		t.Error("a limit is another number")
	}
}

// Promise 1: the bytes of a number are just these, and it comes back from them at any place.
func TestNumBytes(t *testing.T) {
	for _, c := range numBytes {
		if got := impl.PutNum(c.n); got != c.text {
			t.Errorf("PutNum(%d): got %q, want %q", c.n, got, c.text)
		}
		size := int64(len(c.text))
		wantNum(t, c.text, 0, impl.NumOut{N: c.n, At: size})
		wantNum(t, "\xff\xff"+c.text+"\xff\x00", 2, impl.NumOut{N: c.n, At: size + 2})
	}
}

// Promise 1, of numbers around each power of two, held against the standard library's way to write them.
func TestNumsComeBack(t *testing.T) {
	for bit := range 64 {
		for d := int64(-3); d <= 3; d++ {
			n := int64(uint64(1)<<bit) + d
			text := impl.PutNum(n)
			if want := string(binary.AppendVarint(nil, n)); text != want {
				t.Errorf("PutNum(%d): got %q, want %q", n, text, want)
			}
			wantNum(t, text, 0, impl.NumOut{N: n, At: int64(len(text))})
		}
	}
}

// Promise 1: one number stands behind the other, and each place told is that of the next one.
func TestNumsInARow(t *testing.T) {
	row := ""
	for _, c := range numBytes {
		row += c.text
	}
	at := int64(0)
	for _, c := range numBytes {
		at += int64(len(c.text))
		wantNum(t, row, at-int64(len(c.text)), impl.NumOut{N: c.n, At: at})
	}
	wantNum(t, row, at, impl.NumOut{Code: impl.ErrShort})
}

func TestNumPlaces(t *testing.T) {
	for _, at := range []int64{-1, -2, math.MinInt64} {
		wantNum(t, "\x02", at, impl.NumOut{Code: impl.ErrForm})
		wantNum(t, "", at, impl.NumOut{Code: impl.ErrForm})
	}
	for _, at := range []int64{1, 2, 8000, math.MaxInt64 - 1, math.MaxInt64} {
		wantNum(t, "\x02", at, impl.NumOut{Code: impl.ErrShort})
	}
	wantNum(t, "", 0, impl.NumOut{Code: impl.ErrShort})
}

func TestNumTooShort(t *testing.T) {
	for _, c := range numBytes {
		for end := range len(c.text) {
			wantNum(t, c.text[:end], 0, impl.NumOut{Code: impl.ErrShort})
			wantNum(t, "\x02"+c.text[:end], 1, impl.NumOut{Code: impl.ErrShort})
		}
	}
	for many := range 10 {
		wantNum(t, strings.Repeat("\x80", many), 0, impl.NumOut{Code: impl.ErrShort})
		wantNum(t, strings.Repeat("\xff", many), 0, impl.NumOut{Code: impl.ErrShort})
	}
}

// A text that ends at a tenth byte is not too short any more, whatever that byte is.
func TestNumTenthByte(t *testing.T) {
	for _, lead := range []string{strings.Repeat("\x80", 9), strings.Repeat("\xff", 9)} {
		for b := range 256 {
			text := lead + string([]byte{byte(b)})
			want := impl.NumOut{Code: impl.ErrSyntax}
			if b == 1 {
				want = impl.NumOut{N: 1 << 62, At: 10}
				if lead[0] == '\xff' {
					want.N = math.MinInt64
				}
			}
			wantNum(t, text, 0, want)
			wantNum(t, text+"\x01", 0, want)
		}
	}
}

func TestNumWithNeedlessBytes(t *testing.T) {
	for many := 1; many < 10; many++ {
		wantNum(t, strings.Repeat("\x80", many)+"\x00", 0, impl.NumOut{Code: impl.ErrSyntax})
		wantNum(t, strings.Repeat("\xff", many)+"\x00", 0, impl.NumOut{Code: impl.ErrSyntax})
		wantText(t, strings.Repeat("\x84", many)+"\x00ab", 0, impl.TextOut{Code: impl.ErrSyntax})
	}
}

// The limit of what is handed in is looked for ahead of all else, also of a place below 0.
func TestNumSize(t *testing.T) {
	full := strings.Repeat("\x02", impl.MaxBytes)
	wantNum(t, full, impl.MaxBytes-1, impl.NumOut{N: 1, At: impl.MaxBytes})
	wantNum(t, full, impl.MaxBytes, impl.NumOut{Code: impl.ErrShort})
	wantNum(t, full, -1, impl.NumOut{Code: impl.ErrForm})
	for _, at := range []int64{0, -1, impl.MaxBytes + 1} {
		wantNum(t, full+"\x02", at, impl.NumOut{Code: impl.ErrSize})
		wantText(t, full+"\x02", at, impl.TextOut{Code: impl.ErrSize})
	}
}

// Promise 1: a text comes back from its bytes, at any place, if they fit into a text that is handed in.
func TestTextsComeBack(t *testing.T) {
	if got := impl.PutText("ab"); got != "\x04ab" {
		t.Errorf("PutText of ab: %q", got)
	}
	if got := impl.PutText(""); got != "\x00" {
		t.Errorf("PutText of the empty text: %q", got)
	}
	for _, size := range []int{0, 1, 2, 63, 64, 65, 127, 128, 255, 256, 7000, 7997, 7998} {
		text := strings.Repeat("a\x00\xffz\x80", size)[:size]
		put := impl.PutText(text)
		if put != impl.PutNum(int64(size))+text {
			t.Errorf("PutText of %d bytes: %.20q", size, put)
		}
		wantText(t, put, 0, impl.TextOut{Text: text, At: int64(len(put))})
		if size < 7997 {
			wantText(t, "\x80"+put+"\xff", 1, impl.TextOut{Text: text, At: int64(len(put)) + 1})
		}
	}
	row := impl.PutText("one") + impl.PutText("") + impl.PutText("two")
	wantText(t, row, 0, impl.TextOut{Text: "one", At: 4})
	wantText(t, row, 4, impl.TextOut{At: 5})
	wantText(t, row, 5, impl.TextOut{Text: "two", At: 9})
	wantText(t, row, 9, impl.TextOut{Code: impl.ErrShort})
}

func TestPutTextSize(t *testing.T) {
	full := strings.Repeat("a", impl.MaxBytes)
	if got := impl.PutText(full); got != "\x80\x7d"+full {
		t.Errorf("PutText of the longest text: %d bytes, %.20q", len(got), got)
	}
	if got := impl.PutText(full + "a"); got != "" {
		t.Errorf("PutText of a text that is too long: %d bytes", len(got))
	}
	// What PutText makes of the longest texts is itself too long to be handed in.
	wantText(t, impl.PutText(full), 0, impl.TextOut{Code: impl.ErrSize})
	wantText(t, impl.PutText(full[1:]), 0, impl.TextOut{Code: impl.ErrSize})
}

func TestTextFaults(t *testing.T) {
	form := impl.TextOut{Code: impl.ErrForm}
	short := impl.TextOut{Code: impl.ErrShort}
	syntax := impl.TextOut{Code: impl.ErrSyntax}
	wantText(t, "\x04ab", -1, form)
	wantText(t, "\x04ab", math.MinInt64, form)
	wantText(t, "\x04ab", 3, short)
	wantText(t, "\x04ab", 4, short)
	wantText(t, "\x04ab", math.MaxInt64, short)
	wantText(t, "", 0, short)
	wantText(t, "\x84", 0, short)
	wantText(t, "\x04", 0, short)
	wantText(t, "\x04a", 0, short)
	wantText(t, "x\x06ab", 1, short)
	wantText(t, impl.PutNum(impl.MaxBytes), 0, short)
	wantText(t, impl.PutNum(impl.MaxBytes)+"ab", 0, short)
	wantText(t, strings.Repeat("\x80", 9)+"\x02ab", 0, syntax)
	for _, size := range []int64{-1, -2, math.MinInt64, impl.MaxBytes + 1, math.MaxInt64 - 1, math.MaxInt64} {
		wantText(t, impl.PutNum(size), 0, syntax)
		wantText(t, impl.PutNum(size)+"ab", 0, syntax)
	}
}

func TestNames(t *testing.T) {
	long := "abcdefghijklmnopqrst"
	for _, n := range []string{"a", "z", "a9", "z0", "a_", "a__b", "az09_", long, "a2345678901234567890"[:20]} {
		if !impl.NameRight(n) {
			t.Errorf("no name: %q", n)
		}
	}
	wrong := []string{"", "_", "_a", "0", "9a", "A", "aA", "aZ", "a-b", "a b", " a", "a ", "a.b", "a\n", "a\x00", "a`", "a{",
		"`", "{", "a/", "a:", "\xe9", "a\xc3\xa9", long + "u", long + "_", strings.Repeat("a", impl.MaxBytes), strings.Repeat("a", impl.MaxBytes+1)}
	for _, n := range wrong {
		if impl.NameRight(n) {
			t.Errorf("a name: %.40q", n)
		}
	}
}

// Each byte by itself, as the first one of a name and behind it.
func TestNameBytes(t *testing.T) {
	letters, more := "abcdefghijklmnopqrstuvwxyz", "0123456789_"
	for b := range 256 {
		one := string([]byte{byte(b)})
		if got, want := impl.NameRight(one), strings.Contains(letters, one); got != want {
			t.Errorf("NameRight(%q): %v", one, got)
		}
		if got, want := impl.NameRight("a"+one), strings.Contains(letters+more, one); got != want {
			t.Errorf("NameRight(%q): %v", "a"+one, got)
		}
	}
}

func TestCrc(t *testing.T) {
	if got := impl.Crc("123456789"); got != 0xCBF43926 {
		t.Errorf("Crc of the digits: %d", got)
	}
	if got := impl.Crc(""); got != 0 {
		t.Errorf("Crc of the empty text: %d", got)
	}
	for _, size := range []int{1, 2, 3, 4, 5, 100, impl.MaxBytes - 1, impl.MaxBytes} {
		text := strings.Repeat("\x00a\xff\x80 7", size)[:size]
		if got, want := impl.Crc(text), int64(crc32.ChecksumIEEE([]byte(text))); got != want {
			t.Errorf("Crc of %d bytes: got %d, want %d", size, got, want)
		}
	}
	for b := range 256 {
		text := []byte{byte(b)}
		if got, want := impl.Crc(string(text)), int64(crc32.ChecksumIEEE(text)); got != want {
			t.Errorf("Crc of the byte %d: got %d, want %d", b, got, want)
		}
	}
	if got := impl.Crc(strings.Repeat("a", impl.MaxBytes+1)); got != 0 {
		t.Errorf("Crc of a text that is too long: %d", got)
	}
}

// Promise 2: a CRC goes on from text to text, wherever the text is cut.
func TestCrcGoesOn(t *testing.T) {
	text := "what there is\x00\xff stands in a book"
	whole := impl.Crc(text)
	for i := range len(text) + 1 {
		if got := impl.CrcMore(impl.Crc(text[:i]), text[i:]); got != whole {
			t.Errorf("cut at %d: got %d, want %d", i, got, whole)
		}
		for j := range i + 1 {
			if got := impl.CrcMore(impl.CrcMore(impl.Crc(text[:j]), text[j:i]), text[i:]); got != whole {
				t.Errorf("cut at %d and %d: got %d, want %d", j, i, got, whole)
			}
		}
	}
	// Both together may be longer than what may be handed in at once.
	full := strings.Repeat("ab\x80c", impl.MaxBytes/4)
	if got, want := impl.CrcMore(impl.Crc(full), full), int64(crc32.ChecksumIEEE([]byte(full+full))); got != want {
		t.Errorf("of both full texts: got %d, want %d", got, want)
	}
}

func TestCrcRange(t *testing.T) {
	for _, crc := range []int64{0, 1, 1 << 31, 1<<32 - 2, 1<<32 - 1} {
		if got := impl.CrcMore(crc, ""); got != crc {
			t.Errorf("CrcMore(%d) of nothing more: %d", crc, got)
		}
		if got, want := impl.CrcMore(crc, "ab"), int64(crc32.Update(uint32(crc), crc32.IEEETable, []byte("ab"))); got != want {
			t.Errorf("CrcMore(%d): got %d, want %d", crc, got, want)
		}
	}
	for _, crc := range []int64{-1, 1 << 32, 1<<32 + 1, math.MinInt64, math.MaxInt64} {
		for _, text := range []string{"", "ab"} {
			if got := impl.CrcMore(crc, text); got != 0 {
				t.Errorf("CrcMore(%d, %q): got %d", crc, text, got)
			}
		}
	}
	if got := impl.CrcMore(5, strings.Repeat("a", impl.MaxBytes+1)); got != 0 {
		t.Errorf("CrcMore of a text that is too long: %d", got)
	}
}

func TestSealBytes(t *testing.T) {
	if got := impl.Seal("123456789"); got != "123456789\x26\x39\xf4\xcb" {
		t.Errorf("Seal of the digits: %q", got)
	}
	if got := impl.Seal(""); got != "\x00\x00\x00\x00" {
		t.Errorf("Seal of the empty text: %q", got)
	}
}

// Promise 2: a sealed text comes back, with At 0.
func TestSealedComesBack(t *testing.T) {
	for _, size := range []int{0, 1, 2, 3, 4, 5, 100, impl.MaxBytes - 5, impl.MaxBytes - 4} {
		text := strings.Repeat("a\x00\xffz", size)[:size]
		sealed := impl.Seal(text)
		if len(sealed) != size+4 || !strings.HasPrefix(sealed, text) {
			t.Errorf("Seal of %d bytes has %d", size, len(sealed))
		}
		wantUnseal(t, sealed, impl.TextOut{Text: text})
	}
	wantUnseal(t, impl.Seal(impl.Seal("ab")), impl.TextOut{Text: impl.Seal("ab")})
	for _, size := range []int{impl.MaxBytes - 3, impl.MaxBytes, impl.MaxBytes + 1} {
		if got := impl.Seal(strings.Repeat("a", size)); got != "" {
			t.Errorf("Seal of %d bytes has %d", size, len(got))
		}
	}
}

// Promise 2: with one byte turned, in whatever way, it is refused, and nothing stands beside the code.
func TestTurnedByteIsRefused(t *testing.T) {
	for _, text := range []string{"", "a", "abc\x00\xff", "what there is to be is written down"} {
		sealed := impl.Seal(text)
		for i := range len(sealed) {
			for turn := 1; turn < 256; turn++ {
				other := []byte(sealed)
				other[i] ^= byte(turn)
				wantUnseal(t, string(other), impl.TextOut{Code: impl.ErrSum})
			}
		}
	}
}

func TestUnsealFaults(t *testing.T) {
	for _, text := range []string{"", "\x00", "\x00\x00", "\x00\x00\x00", "abc"} {
		wantUnseal(t, text, impl.TextOut{Code: impl.ErrShort})
	}
	sealed := impl.Seal("123456789")
	wantUnseal(t, "abcd", impl.TextOut{Code: impl.ErrSum})
	wantUnseal(t, sealed[1:], impl.TextOut{Code: impl.ErrSum})
	wantUnseal(t, sealed[:12], impl.TextOut{Code: impl.ErrSum})
	wantUnseal(t, sealed+"\x00", impl.TextOut{Code: impl.ErrSum})
	wantUnseal(t, "123456789\xcb\xf4\x39\x26", impl.TextOut{Code: impl.ErrSum})
	wantUnseal(t, strings.Repeat("a", impl.MaxBytes), impl.TextOut{Code: impl.ErrSum})
	wantUnseal(t, strings.Repeat("a", impl.MaxBytes+1), impl.TextOut{Code: impl.ErrSize})
}
