package tests

import (
	"encoding/binary"
	"hash/crc32"
	"math"
	"strings"
	"testing"
	"unsafe"

	"loop.example/g00759/impl"
)

// edgeNums has both sides of each step at which a number takes one more byte.
func edgeNums() []int64 {
	nums := []int64{0, 1, -1, 2, -2, 300, -300, math.MaxInt64, math.MaxInt64 - 1, math.MinInt64, math.MinInt64 + 1}
	for bits := 6; bits < 63; bits++ {
		n := int64(1) << bits
		nums = append(nums, n-1, n, n+1, -n-1, -n, -n+1)
	}
	return nums
}

// bytePool has bytes at the edges of what a number's byte may be.
func bytePool() string {
	return "\x00\x01\x02\x7f\x80\x81\xff"
}

func wantNum(t *testing.T, text string, at int64, want impl.NumOut) {
	t.Helper()
	if got := impl.GetNum(text, at); got != want {
		t.Errorf("GetNum(%.40q, %d): got %+v, want %+v", text, at, got, want)
	}
}

func wantText(t *testing.T, text string, at int64, want impl.TextOut) {
	t.Helper()
	if got := impl.GetText(text, at); got != want {
		t.Errorf("GetText(%.40q, %d): got %+v, want %+v", text, at, got, want)
	}
}

func wantUnseal(t *testing.T, text string, want impl.TextOut) {
	t.Helper()
	if got := impl.Unseal(text); got != want {
		t.Errorf("Unseal(%.40q): got %+v, want %+v", text, got, want)
	}
}

// inside tells whether a text's memory lies within that of another one.
func inside(part string, whole string) bool {
	if part == "" || whole == "" {
		return false
	}
	p := uintptr(unsafe.Pointer(unsafe.StringData(part)))
	w := uintptr(unsafe.Pointer(unsafe.StringData(whole)))
	return p >= w && p < w+uintptr(len(whole))
}

func TestConstantsOfChapter1(t *testing.T) {
	codes := [...]int64{impl.OK, impl.ErrForm, impl.ErrSize, impl.ErrSyntax, impl.ErrShort, impl.ErrSum,
		impl.ErrNone, impl.ErrThere, impl.ErrRange, impl.ErrFull, impl.ErrState}
	for i, code := range codes {
		if code != int64(i) {
			t.Errorf("code %d: got %d", i, code)
		}
	}
	limits := [...]int64{impl.MaxBytes, impl.MaxList, impl.MaxTime}
	if limits != [...]int64{8000, 400, 1000000} {
		t.Errorf("limits: got %v", limits)
	}
}

func TestPromise1PutNumBytes(t *testing.T) {
	written := map[int64]string{
		0: "\x00", -1: "\x01", 1: "\x02", 63: "\x7e", -64: "\x7f", 64: "\x80\x01", -65: "\x81\x01",
		8191: "\xfe\x7f", 8192: "\x80\x80\x01",
		math.MaxInt64: "\xfe\xff\xff\xff\xff\xff\xff\xff\xff\x01",
		math.MinInt64: "\xff\xff\xff\xff\xff\xff\xff\xff\xff\x01",
	}
	for n, want := range written {
		if got := impl.PutNum(n); got != want {
			t.Errorf("PutNum(%d): got %q, want %q", n, got, want)
		}
	}
	for _, n := range edgeNums() {
		if got, want := impl.PutNum(n), string(binary.AppendVarint(nil, n)); got != want {
			t.Errorf("PutNum(%d): got %q, want %q", n, got, want)
		}
	}
}

func TestPromise1NumbersComeBack(t *testing.T) {
	for _, n := range edgeNums() {
		put := impl.PutNum(n)
		size := int64(len(put))
		wantNum(t, put, 0, impl.NumOut{N: n, At: size})
		wantNum(t, "\xff\x80"+put+"\x80", 2, impl.NumOut{N: n, At: size + 2})
		for cut := range put {
			wantNum(t, put[:cut], 0, impl.NumOut{Code: impl.ErrShort})
		}
	}
}

func TestPromise1NumbersInARow(t *testing.T) {
	nums := edgeNums()
	row := ""
	for _, n := range nums {
		row += impl.PutNum(n)
	}
	at := int64(0)
	for _, n := range nums {
		got := impl.GetNum(row, at)
		if got.N != n || got.Code != impl.OK {
			t.Fatalf("at %d: got %+v, want %d", at, got, n)
		}
		at = got.At
	}
	if at != int64(len(row)) {
		t.Errorf("the place behind all: got %d, want %d", at, len(row))
	}
}

func TestPromise1NumberPlaces(t *testing.T) {
	long := strings.Repeat("\x02", impl.MaxBytes)
	wantNum(t, long, impl.MaxBytes-1, impl.NumOut{N: 1, At: impl.MaxBytes})
	wantNum(t, long, impl.MaxBytes, impl.NumOut{Code: impl.ErrShort})
	wantNum(t, long+"\x02", 0, impl.NumOut{Code: impl.ErrSize})
	wantNum(t, long+"\x02", -1, impl.NumOut{Code: impl.ErrSize})
	for _, at := range []int64{-1, -2, math.MinInt64} {
		wantNum(t, "\x02", at, impl.NumOut{Code: impl.ErrForm})
		wantNum(t, "", at, impl.NumOut{Code: impl.ErrForm})
	}
	for _, at := range []int64{1, 2, 1 << 32, math.MaxInt64} {
		wantNum(t, "\x02", at, impl.NumOut{Code: impl.ErrShort})
	}
	wantNum(t, "", 0, impl.NumOut{Code: impl.ErrShort})
}

func TestPromise1NumbersWrittenWrong(t *testing.T) {
	nine := strings.Repeat("\x80", 9)
	full := strings.Repeat("\xff", 9)
	wrong := []string{"\x80\x00", "\x81\x00", "\xff\x80\x00", nine + "\x00", full + "\x00",
		nine + "\x02", full + "\x7f", nine + "\x80", nine + "\x81\x00", full + "\xff", full + "\xff\xff"}
	for _, text := range wrong {
		wantNum(t, text, 0, impl.NumOut{Code: impl.ErrSyntax})
		wantNum(t, "\x00"+text, 1, impl.NumOut{Code: impl.ErrSyntax})
		wantText(t, text, 0, impl.TextOut{Code: impl.ErrSyntax})
	}
	wantNum(t, nine, 0, impl.NumOut{Code: impl.ErrShort})
	wantNum(t, full, 0, impl.NumOut{Code: impl.ErrShort})
	wantNum(t, nine+"\x01", 0, impl.NumOut{N: 1 << 62, At: 10})
}

// numByRule reads a number the way the document tells it: first where it ends, then what it is.
func numByRule(text string) impl.NumOut {
	size := 0
	for size < 10 {
		if size == len(text) {
			return impl.NumOut{Code: impl.ErrShort}
		}
		size++
		if text[size-1] < 128 {
			break
		}
	}
	last := text[size-1]
	if size == 10 && last > 1 || size > 1 && last == 0 {
		return impl.NumOut{Code: impl.ErrSyntax}
	}
	n, _ := binary.Varint([]byte(text[:size]))
	return impl.NumOut{N: n, At: int64(size)}
}

func TestPromise1AllShortNumbers(t *testing.T) {
	ends := []string{""}
	for round := 0; round < 4; round++ {
		var longer []string
		for _, end := range ends {
			for _, b := range []byte(bytePool()) {
				longer = append(longer, end+string([]byte{b}))
			}
		}
		ends = longer
		for _, end := range ends {
			for _, head := range []string{"", "\x80\x80", strings.Repeat("\x80", 7), strings.Repeat("\xff", 9)} {
				wantNum(t, head+end, 0, numByRule(head+end))
			}
		}
	}
}

func TestPromise1TextsComeBack(t *testing.T) {
	for _, size := range []int{0, 1, 2, 63, 64, 65, 8000 - 3, 8000 - 2} {
		text := strings.Repeat("\xffa", size)[:size]
		put := impl.PutText(text)
		if want := string(binary.AppendVarint(nil, int64(size))) + text; put != want {
			t.Errorf("PutText of %d bytes: got %.40q", size, put)
		}
		wantText(t, put, 0, impl.TextOut{Text: text, At: int64(len(put))})
	}
	wantText(t, "x"+impl.PutText("a\x00\xe4\n")+"y", 1, impl.TextOut{Text: "a\x00\xe4\n", At: 6})
	wantText(t, "\x00", 0, impl.TextOut{At: 1})
}

func TestPromise1TextLimits(t *testing.T) {
	full := strings.Repeat("a", impl.MaxBytes)
	put := impl.PutText(full)
	if put != "\x80\x7d"+full {
		t.Errorf("PutText of MaxBytes bytes: got %d bytes", len(put))
	}
	wantText(t, put, 0, impl.TextOut{Code: impl.ErrSize})
	wantText(t, put, -1, impl.TextOut{Code: impl.ErrSize})
	if got := impl.PutText(full + "a"); got != "" {
		t.Errorf("PutText of one byte more than MaxBytes: got %d bytes", len(got))
	}
	wantText(t, put[:impl.MaxBytes], 0, impl.TextOut{Code: impl.ErrShort})
}

func TestPromise1TextsWrittenWrong(t *testing.T) {
	for _, size := range []int64{-1, -2, impl.MaxBytes + 1, math.MaxInt64, math.MinInt64} {
		wantText(t, impl.PutNum(size), 0, impl.TextOut{Code: impl.ErrSyntax})
		wantText(t, impl.PutNum(size)+"abc", 0, impl.TextOut{Code: impl.ErrSyntax})
	}
	for _, at := range []int64{-1, math.MinInt64} {
		wantText(t, "\x02a", at, impl.TextOut{Code: impl.ErrForm})
	}
	for _, at := range []int64{2, 3, math.MaxInt64} {
		wantText(t, "\x02a", at, impl.TextOut{Code: impl.ErrShort})
	}
	for _, text := range []string{"", "\x80", "\x02", "\x04a", impl.PutNum(impl.MaxBytes)} {
		wantText(t, text, 0, impl.TextOut{Code: impl.ErrShort})
	}
}

func TestPromise1TextIsNewMemory(t *testing.T) {
	put := impl.PutText("some text of its own")
	if inside(impl.GetText(put, 0).Text, put) {
		t.Error("GetText hands out a piece of what it was given")
	}
	sealed := impl.Seal("some text of its own")
	if inside(impl.Unseal(sealed).Text, sealed) {
		t.Error("Unseal hands out a piece of what it was given")
	}
}

func TestPromise1Names(t *testing.T) {
	right := []string{"a", "z", "a0", "a9", "a_", "az_09", "a" + strings.Repeat("_", 19)}
	for _, name := range right {
		if !impl.NameRight(name) {
			t.Errorf("NameRight(%q): got no", name)
		}
	}
	wrong := []string{"", "_", "_a", "0", "9a", "A", "aB", "a-", "a b", " a", "a\n", "\u00e4", "a\u00e4", "a\x00",
		"a" + strings.Repeat("_", 20), strings.Repeat("a", impl.MaxBytes), strings.Repeat("a", impl.MaxBytes+1)}
	for _, name := range wrong {
		if impl.NameRight(name) {
			t.Errorf("NameRight(%.40q): got yes", name)
		}
	}
	for b := range 256 {
		letter := b >= 'a' && b <= 'z'
		if got := impl.NameRight(string([]byte{byte(b)})); got != letter {
			t.Errorf("NameRight of the byte %d alone: got %v", b, got)
		}
		later := letter || b >= '0' && b <= '9' || b == '_'
		if got := impl.NameRight(string([]byte{'a', byte(b)})); got != later {
			t.Errorf("NameRight of a and the byte %d: got %v", b, got)
		}
	}
}

// crcTexts has every single byte, and texts up to the limit.
func crcTexts() []string {
	texts := []string{"", "123456789", "What has been so", strings.Repeat("\x00", 40), strings.Repeat("\xff", 40),
		strings.Repeat("0123456789", impl.MaxBytes/10)}
	for b := range 256 {
		texts = append(texts, string([]byte{byte(b)}))
	}
	return texts
}

func TestPromise2Crc(t *testing.T) {
	for _, text := range crcTexts() {
		if got, want := impl.Crc(text), int64(crc32.ChecksumIEEE([]byte(text))); got != want {
			t.Errorf("Crc(%.40q): got %d, want %d", text, got, want)
		}
	}
	if got := impl.Crc(strings.Repeat("a", impl.MaxBytes+1)); got != 0 {
		t.Errorf("Crc of one byte more than MaxBytes: got %d", got)
	}
}

func TestPromise2CrcGoesOn(t *testing.T) {
	text := "what has been so, \x00while it \xffgoes on"
	for cut := range len(text) + 1 {
		if got := impl.CrcMore(impl.Crc(text[:cut]), text[cut:]); got != impl.Crc(text) {
			t.Errorf("CrcMore behind %d bytes: got %d, want %d", cut, got, impl.Crc(text))
		}
	}
	full := strings.Repeat("ab", impl.MaxBytes/2)
	want := int64(crc32.ChecksumIEEE([]byte(full + full)))
	if got := impl.CrcMore(impl.Crc(full), full); got != want {
		t.Errorf("CrcMore of two texts of MaxBytes bytes: got %d, want %d", got, want)
	}
}

func TestPromise2CrcMoreEdges(t *testing.T) {
	for _, crc := range []int64{0, 1, 1 << 31, math.MaxUint32} {
		if got := impl.CrcMore(crc, ""); got != crc {
			t.Errorf("CrcMore(%d) of no text: got %d", crc, got)
		}
		want := int64(crc32.Update(uint32(crc), crc32.IEEETable, []byte("ab")))
		if got := impl.CrcMore(crc, "ab"); got != want {
			t.Errorf("CrcMore(%d, ab): got %d, want %d", crc, got, want)
		}
		if got := impl.CrcMore(crc, strings.Repeat("a", impl.MaxBytes+1)); got != 0 {
			t.Errorf("CrcMore(%d) of one byte more than MaxBytes: got %d", crc, got)
		}
	}
	for _, crc := range []int64{-1, math.MinInt64, math.MaxUint32 + 1, math.MaxInt64} {
		for _, text := range []string{"", "ab"} {
			if got := impl.CrcMore(crc, text); got != 0 {
				t.Errorf("CrcMore(%d, %q): got %d, want 0", crc, text, got)
			}
		}
	}
}

func TestPromise2SealedComesBack(t *testing.T) {
	for _, size := range []int{0, 1, 3, 4, 5, 100, impl.MaxBytes - 5, impl.MaxBytes - 4} {
		text := strings.Repeat("a\x00\xff", size)[:size]
		sealed := impl.Seal(text)
		want := text + string(binary.LittleEndian.AppendUint32(nil, crc32.ChecksumIEEE([]byte(text))))
		if sealed != want {
			t.Errorf("Seal of %d bytes: got %.40q, want %.40q", size, sealed, want)
		}
		wantUnseal(t, sealed, impl.TextOut{Text: text})
	}
	if got := impl.Seal("123456789"); got != "123456789\x26\x39\xf4\xcb" {
		t.Errorf("Seal(123456789): got %q", got)
	}
	for _, more := range []int{-3, 0, 1} {
		if got := impl.Seal(strings.Repeat("a", impl.MaxBytes+more)); got != "" {
			t.Errorf("Seal of %d bytes: got %d bytes", impl.MaxBytes+more, len(got))
		}
	}
}

func TestPromise2TurnedIsRefused(t *testing.T) {
	for _, text := range []string{"", "a", "what has been so", strings.Repeat("\x00", 20)} {
		sealed := impl.Seal(text)
		for place := range len(sealed) {
			for turn := 1; turn < 256; turn++ {
				row := []byte(sealed)
				row[place] ^= byte(turn)
				wantUnseal(t, string(row), impl.TextOut{Code: impl.ErrSum})
			}
		}
	}
}

func TestPromise2NoSeal(t *testing.T) {
	for size := range 4 {
		wantUnseal(t, strings.Repeat("\x00", size), impl.TextOut{Code: impl.ErrShort})
	}
	wantUnseal(t, "\x00\x00\x00\x00", impl.TextOut{})
	wantUnseal(t, "abcd", impl.TextOut{Code: impl.ErrSum})
	wantUnseal(t, "123456789\xcb\xf4\x39\x26", impl.TextOut{Code: impl.ErrSum})
	wantUnseal(t, strings.Repeat("a", impl.MaxBytes), impl.TextOut{Code: impl.ErrSum})
	wantUnseal(t, strings.Repeat("a", impl.MaxBytes+1), impl.TextOut{Code: impl.ErrSize})
	full := strings.Repeat("a", impl.MaxBytes-3)
	sum := binary.LittleEndian.AppendUint32(nil, crc32.ChecksumIEEE([]byte(full)))
	wantUnseal(t, full+string(sum), impl.TextOut{Code: impl.ErrSize})
}
