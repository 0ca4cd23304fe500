package impl

import (
	"errors"
	"math"
	"strconv"
	"strings"
)

// Constants, see chapter 1.
const (
	OK        = 0
	ErrForm   = 1
	ErrSize   = 2
	ErrSyntax = 3
	ErrShort  = 4
	ErrSum    = 5
	ErrNone   = 6
	ErrThere  = 7
	ErrRange  = 8
	ErrFull   = 9
	ErrState  = 10
	MaxBytes  = 8000
	MaxList   = 400
	MaxTime   = 1000000
)

const (
	maxNumBytes  = 10
	maxNameBytes = 20
	crcBytes     = 4
	crcPattern   = 0xEDB88320
)

// NumOut is a thing of chapter 2.
type NumOut struct {
	N    int64
	At   int64
	Code int64
}

// TextOut is a thing of chapter 2.
type TextOut struct {
	Text string
	At   int64
	Code int64
}

// byteFault is what is wrong with bytes that are read, by its code.
type byteFault struct {
	code int64
}

func (f byteFault) Error() string {
	return "bytes: code " + strconv.FormatInt(f.code, 10)
}

// PutNum: see chapter 2.
func PutNum(n int64) string {
	var row [maxNumBytes]byte
	count := 0
	u := foldSign(n)
	for ; u >= 128; u /= 128 {
		row[count] = byte(u%128) + 128
		count++
	}
	row[count] = byte(u)
	return string(row[:count+1])
}

// GetNum: see chapter 2.
func GetNum(text string, at int64) NumOut {
	n, behind, err := readNum(text, at)
	var fault byteFault
	if errors.As(err, &fault) {
		return NumOut{Code: fault.code}
	}
	return NumOut{N: n, At: behind}
}

// PutText: see chapter 2.
func PutText(t string) string {
	if tooLong(t) {
		return ""
	}
	return join(PutNum(int64(len(t))), t)
}

// GetText: see chapter 2.
func GetText(text string, at int64) TextOut {
	t, behind, err := readText(text, at)
	var fault byteFault
	if errors.As(err, &fault) {
		return TextOut{Code: fault.code}
	}
	return TextOut{Text: t, At: behind}
}

// NameRight: see chapter 2.
func NameRight(t string) bool {
	if len(t) < 1 || len(t) > maxNameBytes || !isSmallLetter(t[0]) {
		return false
	}
	for i := range len(t) {
		if b := t[i]; !isSmallLetter(b) && !isDigit(b) && b != '_' {
			return false
		}
	}
	return true
}

// Crc: see chapter 2.
func Crc(text string) int64 {
	// The CRC of no bytes at all is 0, so every text stands behind that one.
	return CrcMore(0, text)
}

// CrcMore: see chapter 2.
func CrcMore(crc int64, text string) int64 {
	if tooLong(text) || crc < 0 || crc > math.MaxUint32 {
		return 0
	}
	register := ^uint32(crc)
	for i := range len(text) {
		register = crcStep(register, text[i])
	}
	return int64(^register)
}

// Seal: see chapter 2.
func Seal(text string) string {
	if len(text) > MaxBytes-crcBytes {
		return ""
	}
	return join(text, crcText(text))
}

// Unseal: see chapter 2.
func Unseal(text string) TextOut {
	if tooLong(text) {
		return TextOut{Code: ErrSize}
	}
	end := len(text) - crcBytes
	if end < 0 {
		return TextOut{Code: ErrShort}
	}
	if text[end:] != crcText(text[:end]) {
		return TextOut{Code: ErrSum}
	}
	return TextOut{Text: strings.Clone(text[:end])}
}

func tooLong(text string) bool {
	return len(text) > MaxBytes
}

func isSmallLetter(b byte) bool {
	return 'a' <= b && b <= 'z'
}

func isDigit(b byte) bool {
	return '0' <= b && b <= '9'
}

// foldSign doubles -(n+1), not -n: the least int64 has no opposite.
func foldSign(n int64) uint64 {
	if n < 0 {
		return 2*uint64(-(n+1)) + 1
	}
	return 2 * uint64(n)
}

func unfoldSign(u uint64) int64 {
	half := int64(u / 2)
	if u%2 == 1 {
		return -half - 1
	}
	return half
}

// placeCode names what is looked for ahead of all bytes.
func placeCode(text string, at int64) int64 {
	if tooLong(text) {
		return ErrSize
	}
	if at < 0 {
		return ErrForm
	}
	return OK
}

// readNum goes from state to state: more bytes, the last one, or what is wrong.
func readNum(text string, at int64) (int64, int64, error) {
	var u uint64
	var b byte
	count := 0
	code := placeCode(text, at)
	if code != OK {
		goto wrong
	}
more:
	if at >= int64(len(text)) {
		code = ErrShort
		goto wrong
	}
	b = text[at]
	// Nine bytes hold 63 bits: the tenth has one bit left, and none may follow it.
	if count == maxNumBytes-1 && b > 1 {
		code = ErrSyntax
		goto wrong
	}
	u |= uint64(b%128) << (7 * count)
	at++
	count++
	if b < 128 {
		goto last
	}
	goto more
last:
	// A last byte of 0 adds nothing to the ones ahead of it: it was not needed.
	if b == 0 && count > 1 {
		code = ErrSyntax
		goto wrong
	}
	return unfoldSign(u), at, nil
wrong:
	return 0, 0, byteFault{code: code}
}

func readText(text string, at int64) (string, int64, error) {
	size, from, err := readNum(text, at)
	if err != nil {
		return "", 0, err
	}
	if size < 0 || size > MaxBytes {
		return "", 0, byteFault{code: ErrSyntax}
	}
	end := from + size
	if end > int64(len(text)) {
		return "", 0, byteFault{code: ErrShort}
	}
	// A bare piece of text would share its memory.
	return strings.Clone(text[from:end]), end, nil
}

func join(a string, b string) string {
	row := make([]byte, len(a)+len(b))
	copy(row[copy(row, a):], b)
	return string(row)
}

func crcStep(register uint32, b byte) uint32 {
	// The byte's bits meet the register's lowest eight one after the other, so they may be put in at once.
	register ^= uint32(b)
	for range 8 {
		low := register & 1
		register >>= 1
		if low == 1 {
			register ^= crcPattern
		}
	}
	return register
}

// crcText has the lowest byte of the CRC first.
func crcText(text string) string {
	var row [crcBytes]byte
	crc := Crc(text)
	for i := range row {
		row[i] = byte(crc % 256)
		crc /= 256
	}
	return string(row[:])
}
