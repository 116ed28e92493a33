package impl

import (
	"errors"
	"math"
	"strconv"
)

// Constants, see chapter 1.
const (
	OK        = 0
	ErrForm   = 1
	ErrSize   = 2
	ErrSyntax = 3
	ErrShort  = 4
	ErrSum    = 5
	ErrNone   = 6
	ErrThere  = 7
	ErrRange  = 8
	ErrFull   = 9
	ErrState  = 10
	ErrKind   = 11
	ErrMove   = 12
	MaxBytes  = 8000
	MaxList   = 400
	MaxTime   = 1000000
)

// NumOut is a thing of chapter 2.
type NumOut struct {
	N    int64
	At   int64
	Code int64
}

// TextOut is a thing of chapter 2.
type TextOut struct {
	Text string
	At   int64
	Code int64
}

// A number of 64 bits has at most ten bytes of seven bits; of the tenth one only a single bit is left.
const (
	maxNumBytes = 10
	lastShift   = 63
)

// crcPoly is the polynomial of the CRC with its bits turned round, as the register is shifted down.
const crcPoly = 0xEDB88320

const (
	sumBytes = 4
	maxName  = 20
)

// bytesFault is what is wrong with bytes that are read; it carries the code that is told.
type bytesFault struct {
	code int64
}

func (f bytesFault) Error() string {
	return "bytes: code " + strconv.FormatInt(f.code, 10)
}

// codeOf takes the code out of what went wrong; nothing wrong is OK.
func codeOf(err error) int64 {
	var f bytesFault
	if errors.As(err, &f) {
		return f.code
	}
	return OK
}

// fold lays the numbers below 0 between the others, so that small ones of either sign have few bytes.
func fold(n int64) uint64 {
	return uint64(n<<1) ^ uint64(n>>63)
}

func unfold(u uint64) int64 {
	return int64(u>>1) ^ -int64(u&1)
}

// join copies, so that an answer never keeps the memory of a text that was handed in.
func join(parts ...string) string {
	size := 0
	for _, p := range parts {
		size += len(p)
	}
	out := make([]byte, size)
	at := 0
	for _, p := range parts {
		at += copy(out[at:], p)
	}
	return string(out)
}

// PutNum: see chapter 2.
func PutNum(n int64) string {
	u := fold(n)
	out := make([]byte, 0, maxNumBytes)
	for u >= 128 {
		out = append(out, byte(u)|128)
		u >>= 7
	}
	return string(append(out, byte(u)))
}

// readNum goes from state to state: more bytes follow, the last one is there, or something is wrong.
func readNum(text string, at int64) (int64, int64, error) {
	var u, b uint64
	var shift uint
	var fault bytesFault
	if len(text) > MaxBytes {
		fault.code = ErrSize
		goto wrong
	}
	if at < 0 {
		fault.code = ErrForm
		goto wrong
	}
more:
	if at >= int64(len(text)) {
		fault.code = ErrShort
		goto wrong
	}
	b = uint64(text[at])
	at++
	// Looked for ahead of the last byte: a tenth byte of 128 or more ends the number as well.
	if shift == lastShift && b > 1 {
		fault.code = ErrSyntax
		goto wrong
	}
	if b < 128 {
		goto last
	}
	u |= (b - 128) << shift
	shift += 7
	goto more
last:
	// A last byte of 0 adds nothing: the number could have been written without it.
	if b == 0 && shift > 0 {
		fault.code = ErrSyntax
		goto wrong
	}
	return unfold(u | b<<shift), at, nil
wrong:
	return 0, 0, fault
}

// readText compares the length with what is left, and never adds to it, so that no sum can run over.
func readText(text string, at int64) (string, int64, error) {
	size, from, err := readNum(text, at)
	if err != nil {
		return "", 0, err
	}
	if size < 0 || size > MaxBytes {
		return "", 0, bytesFault{code: ErrSyntax}
	}
	if size > int64(len(text))-from {
		return "", 0, bytesFault{code: ErrShort}
	}
	return join(text[from : from+size]), from + size, nil
}

// GetNum: see chapter 2.
func GetNum(text string, at int64) NumOut {
	n, behind, err := readNum(text, at)
	return NumOut{N: n, At: behind, Code: codeOf(err)}
}

// PutText: see chapter 2.
func PutText(t string) string {
	if len(t) > MaxBytes {
		return ""
	}
	return join(PutNum(int64(len(t))), t)
}

// GetText: see chapter 2.
func GetText(text string, at int64) TextOut {
	t, behind, err := readText(text, at)
	return TextOut{Text: t, At: behind, Code: codeOf(err)}
}

// NameRight: see chapter 2.
func NameRight(t string) bool {
	if len(t) < 1 || len(t) > maxName {
		return false
	}
	for i := 0; i < len(t); i++ {
		if !nameByte(t[i], i == 0) {
			return false
		}
	}
	return true
}

func nameByte(b byte, first bool) bool {
	if b >= 'a' && b <= 'z' {
		return true
	}
	return !first && (b >= '0' && b <= '9' || b == '_')
}

// Crc: see chapter 2.
func Crc(text string) int64 {
	return CrcMore(0, text)
}

// CrcMore: see chapter 2. Turning all bits of a CRC gives back the register that it was taken from.
func CrcMore(crc int64, text string) int64 {
	if len(text) > MaxBytes || crc < 0 || crc > math.MaxUint32 {
		return 0
	}
	return int64(^shiftIn(^uint32(crc), text))
}

// shiftIn puts in the eight bits of a byte at once: each is still the lowest one when its turn comes.
func shiftIn(register uint32, text string) uint32 {
	for i := 0; i < len(text); i++ {
		register ^= uint32(text[i])
		for range 8 {
			low := register & 1
			register >>= 1
			if low == 1 {
				register ^= crcPoly
			}
		}
	}
	return register
}

// Seal: see chapter 2.
func Seal(text string) string {
	if len(text) > MaxBytes-sumBytes {
		return ""
	}
	crc := Crc(text)
	sum := make([]byte, sumBytes)
	for i := range sum {
		sum[i] = byte(crc >> (8 * i))
	}
	return join(text, string(sum))
}

// Unseal: see chapter 2.
func Unseal(text string) TextOut {
	if len(text) > MaxBytes {
		return TextOut{Code: ErrSize}
	}
	if len(text) < sumBytes {
		return TextOut{Code: ErrShort}
	}
	t := text[:len(text)-sumBytes]
	if Seal(t) != text {
		return TextOut{Code: ErrSum}
	}
	return TextOut{Text: join(t)}
}
