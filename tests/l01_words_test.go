package tests

import (
	"fmt"
	"math"
	"slices"
	"strconv"
	"strings"
	"testing"
	"unsafe"

	"loop.example/g00190/impl"
)

func TestWordLimits(t *testing.T) {
	got := []int{impl.MaxText, impl.MaxNumber, impl.MaxWords, impl.MaxParts}
	want := []int{20000, 1000000000, 600, 10}
	if !slices.Equal(got, want) {
		t.Errorf("limits %v, want %v", got, want)
	}
}

var varForms = []struct {
	n    int
	text string
}{
	{0, "\x00"},
	{1, "\x01"},
	{127, "\x7f"},
	{128, "\x80\x01"},
	{255, "\xff\x01"},
	{256, "\x80\x02"},
	{300, "\xac\x02"},
	{16383, "\xff\x7f"},
	{16384, "\x80\x80\x01"},
	{20000, "\xa0\x9c\x01"},
	{2097151, "\xff\xff\x7f"},
	{2097152, "\x80\x80\x80\x01"},
	{268435455, "\xff\xff\xff\x7f"},
	{268435456, "\x80\x80\x80\x80\x01"},
	{999999999, "\xff\x93\xeb\xdc\x03"},
	{1000000000, "\x80\x94\xeb\xdc\x03"},
}

func TestVarTextWritesItsBytes(t *testing.T) {
	for _, f := range varForms {
		if got, ok := impl.VarText(f.n); got != f.text || !ok {
			t.Errorf("VarText(%d) = %q, %v, want %q", f.n, got, ok, f.text)
		}
	}
}

func TestVarTextRefuses(t *testing.T) {
	for _, n := range []int{-1, -128, -1000000000, math.MinInt, 1000000001, 1 << 31, 1 << 35, math.MaxInt} {
		if got, ok := impl.VarText(n); got != "" || ok {
			t.Errorf("VarText(%d) = %q, %v, want a refusal", n, got, ok)
		}
	}
}

func checkReadVar(t *testing.T, text string, at int, n int, behind int, ok bool) {
	t.Helper()
	gotN, gotBehind, gotOk := impl.ReadVar(text, at)
	if gotN != n || gotBehind != behind || gotOk != ok {
		t.Errorf("ReadVar(%q, %d) = %d, %d, %v, want %d, %d, %v", text, at, gotN, gotBehind, gotOk, n, behind, ok)
	}
}

func TestReadVarReadsItsBytes(t *testing.T) {
	for _, f := range varForms {
		long := len(f.text)
		checkReadVar(t, f.text, 0, f.n, long, true)
		checkReadVar(t, "\x80\xff"+f.text, 2, f.n, 2+long, true)
		checkReadVar(t, f.text+"\x00\xff", 0, f.n, long, true)
	}
}

func TestReadVarRefusesWrongBytes(t *testing.T) {
	wrong := []string{
		"\x80\x00", "\xac\x82\x00", "\xff\x80\x00", "\x80\x80\x80\x00", "\x80\x94\xeb\xdc\x83\x00",
		"\x81\x94\xeb\xdc\x03", "\xff\xff\xff\xff\x03", "\xff\xff\xff\xff\x7f", "\x80\x80\x80\x80\x80\x01",
		"\x80\x80\x80\x80\x80\x80\x80\x80\x80\x01", "\x80\x80\x80\x80\x80\x80\x80\x80\x80\x02",
		"\x81\x80\x80\x80\x80\x80\x80\x80\x80\x80\x01", strings.Repeat("\x80", 5000) + "\x01",
		"", "\x80", "\xac", "\xff\xff\xff\xff", "\x80\x94\xeb\xdc\x83", strings.Repeat("\xff", 5000),
	}
	for _, text := range wrong {
		checkReadVar(t, text, 0, 0, 0, false)
		checkReadVar(t, "\x05"+text, 1, 0, 0, false)
	}
}

func TestReadVarRefusesWrongPlaces(t *testing.T) {
	text := "\x07\xac\x02"
	for _, at := range []int{-1, -3, math.MinInt, 3, 4, 5, 100, math.MaxInt} {
		checkReadVar(t, text, at, 0, 0, false)
	}
	for _, at := range []int{math.MinInt, -1, 0, 1, math.MaxInt} {
		checkReadVar(t, "", at, 0, 0, false)
	}
	checkReadVar(t, text, 0, 7, 1, true)
	checkReadVar(t, text, 2, 2, 3, true)
}

// Every text of two bytes: the one number, if any, with which VarText begins it.
func TestReadVarOfAllPairs(t *testing.T) {
	numbers := map[string]int{}
	for n := range 16384 {
		text, _ := impl.VarText(n)
		numbers[text] = n
	}
	for i := range 65536 {
		text := string([]byte{byte(i / 256), byte(i % 256)})
		n, behind, ok := 0, 0, false
		for long := 1; long <= 2 && !ok; long++ {
			if n, ok = numbers[text[:long]]; ok {
				behind = long
			}
		}
		checkReadVar(t, text, 0, n, behind, ok)
	}
}

func TestShortTextWritesLengthAndText(t *testing.T) {
	longest := strings.Repeat("x", 20000)
	forms := map[string]string{
		"":                       "\x00",
		"a":                      "\x01a",
		"\x00\xff \n":            "\x04\x00\xff \n",
		strings.Repeat("y", 127): "\x7f" + strings.Repeat("y", 127),
		strings.Repeat("y", 128): "\x80\x01" + strings.Repeat("y", 128),
		longest:                  "\xa0\x9c\x01" + longest,
	}
	for s, want := range forms {
		if got, ok := impl.ShortText(s); got != want || !ok {
			t.Errorf("ShortText of %d bytes has %d bytes, %v, want %d", len(s), len(got), ok, len(want))
		}
	}
	for _, long := range []int{20001, 20002, 100000} {
		if got, ok := impl.ShortText(strings.Repeat("x", long)); got != "" || ok {
			t.Errorf("ShortText of %d bytes was not refused", long)
		}
	}
}

func checkReadShort(t *testing.T, text string, at int, s string, behind int, ok bool) {
	t.Helper()
	gotS, gotBehind, gotOk := impl.ReadShort(text, at)
	if gotS != s || gotBehind != behind || gotOk != ok {
		t.Errorf("ReadShort(%.20q of %d bytes, %d) = %.20q of %d bytes, %d, %v, want %.20q of %d bytes, %d, %v",
			text, len(text), at, gotS, len(gotS), gotBehind, gotOk, s, len(s), behind, ok)
	}
}

func TestReadShortReadsItsText(t *testing.T) {
	checkReadShort(t, "\x00", 0, "", 1, true)
	checkReadShort(t, "ab\x00", 2, "", 3, true)
	checkReadShort(t, "\x02abc", 0, "ab", 3, true)
	checkReadShort(t, "\xff\x03a\x00\xffz", 1, "a\x00\xff", 5, true)
	longest := strings.Repeat("\xe4", 20000)
	checkReadShort(t, "\xa0\x9c\x01"+longest, 0, longest, 20003, true)
	checkReadShort(t, "..\xa0\x9c\x01"+longest+"..", 2, longest, 20005, true)
}

func TestReadShortRefuses(t *testing.T) {
	wrong := []string{
		"", "\x01", "\x02a", "\x80", "\x80\x00", "\x81\x00a", "\x82\x80\x00ab",
		"\xa0\x9c\x01" + strings.Repeat("x", 19999),
		"\xa1\x9c\x01" + strings.Repeat("x", 20001),
		"\xa1\x9c\x01" + strings.Repeat("x", 30000),
		"\x80\x94\xeb\xdc\x03abc",
		"\x81\x94\xeb\xdc\x03abc",
		"\xff\xff\xff\xff\xff\xff\xff\xff\x7fabc",
	}
	for _, text := range wrong {
		checkReadShort(t, text, 0, "", 0, false)
		checkReadShort(t, "z"+text, 1, "", 0, false)
	}
	for _, at := range []int{math.MinInt, -1, 3, 4, 1000, math.MaxInt} {
		checkReadShort(t, "\x02ab", at, "", 0, false)
	}
}

func TestHexWritesTwoFiguresAByte(t *testing.T) {
	for b := range 256 {
		want := fmt.Sprintf("%02x", b)
		if got, ok := impl.Hex(string([]byte{byte(b)})); got != want || !ok {
			t.Errorf("Hex of the byte %d = %q, %v, want %q", b, got, ok, want)
		}
	}
	for text, want := range map[string]string{"": "", "\x01\xab\xf0": "01abf0", strings.Repeat("\x5e", 20000): strings.Repeat("5e", 20000)} {
		if got, ok := impl.Hex(text); got != want || !ok {
			t.Errorf("Hex of %d bytes = %.20q, %v, want %.20q", len(text), got, ok, want)
		}
	}
	if got, ok := impl.Hex(strings.Repeat("a", 20001)); got != "" || ok {
		t.Error("Hex of MaxText bytes and one more was not refused")
	}
}

func checkUnhex(t *testing.T, text string, want string, ok bool) {
	t.Helper()
	if got, gotOk := impl.Unhex(text); got != want || gotOk != ok {
		t.Errorf("Unhex(%.20q of %d bytes) = %.20q, %v, want %.20q, %v", text, len(text), got, gotOk, want, ok)
	}
}

// Every text of two bytes: the byte, if any, whose Hex it is.
func TestUnhexOfAllPairs(t *testing.T) {
	texts := map[string]string{}
	for b := range 256 {
		texts[fmt.Sprintf("%02x", b)] = string([]byte{byte(b)})
	}
	for i := range 65536 {
		figures := string([]byte{byte(i / 256), byte(i % 256)})
		want, ok := texts[figures]
		checkUnhex(t, figures, want, ok)
	}
}

func TestUnhexEdges(t *testing.T) {
	checkUnhex(t, "", "", true)
	checkUnhex(t, "00ff10", "\x00\xff\x10", true)
	for _, text := range []string{"0", "f", "000", "abc", "AB", "aB", "00FF", "0x", "0g", "1 ", " 1", "-1", "00\n", "00zz", "zz00", "0011/:", "`0"} {
		checkUnhex(t, text, "", false)
	}
	checkUnhex(t, strings.Repeat("7a", 20000), strings.Repeat("z", 20000), true)
	checkUnhex(t, strings.Repeat("7a", 20000)+"7", "", false)
	checkUnhex(t, strings.Repeat("7a", 20001), "", false)
	checkUnhex(t, strings.Repeat("7a", 19999)+"7A", "", false)
}

func TestDecimalOfEveryKindOfInt(t *testing.T) {
	forms := map[int]string{
		0: "0", 1: "1", 9: "9", 10: "10", 100: "100", 4096: "4096", 1000000000: "1000000000", 1000000001: "1000000001",
		-1: "-1", -5: "-5", -10: "-10", -1000000000: "-1000000000",
		math.MaxInt: "9223372036854775807", math.MinInt: "-9223372036854775808",
		math.MinInt + 1: "-9223372036854775807", 1 << 32: "4294967296",
	}
	for n, want := range forms {
		if got := impl.Decimal(n); got != want {
			t.Errorf("Decimal(%d) = %q, want %q", n, got, want)
		}
	}
}

func checkReadDecimal(t *testing.T, text string, want int, ok bool) {
	t.Helper()
	if got, gotOk := impl.ReadDecimal(text); got != want || gotOk != ok {
		t.Errorf("ReadDecimal(%.30q of %d bytes) = %d, %v, want %d, %v", text, len(text), got, gotOk, want, ok)
	}
}

func TestReadDecimalEdges(t *testing.T) {
	for text, n := range map[string]int{"0": 0, "7": 7, "10": 10, "1005": 1005, "999999999": 999999999, "1000000000": 1000000000} {
		checkReadDecimal(t, text, n, true)
	}
	wrong := []string{
		"", "00", "01", "007", "0000000000", "01000000000", "-", "-0", "-1", "-5", "+", "+1", "+0", " 1", "1 ", "1 2", "1.", "1_0", "0x1", "a", "1a", "a1",
		"1/", "1:", "\x00", "1\n", "\xd9\xa1",
		"1000000001", "1000000010", "2000000000", "9999999999", "10000000000", "4294967296", "4294967297",
		"9223372036854775807", "9223372036854775808", "18446744073709551616", "18446744073709551617", "-9223372036854775808",
		"1" + strings.Repeat("0", 64), strings.Repeat("9", 100000), strings.Repeat("0", 100000), strings.Repeat("0", 100000) + "1",
	}
	for _, text := range wrong {
		checkReadDecimal(t, text, 0, false)
	}
}

// Every text of up to three bytes: the number, if any, whose figures these are.
func TestReadDecimalOfAllShortTexts(t *testing.T) {
	numbers := map[string]int{}
	for n := range 1000 {
		numbers[strconv.Itoa(n)] = n
	}
	signs := []byte("0123456789-+ /:a\x00\xb1")
	texts := []string{""}
	for range 3 {
		longer := []string{}
		for _, text := range texts {
			for _, sign := range signs {
				longer = append(longer, text+string([]byte{sign}))
			}
		}
		for _, text := range longer {
			n, ok := numbers[text]
			checkReadDecimal(t, text, n, ok)
		}
		texts = longer
	}
}

func checkParts(t *testing.T, line string, want []string, ok bool) {
	t.Helper()
	if got, gotOk := impl.PartsOf(line); !slices.Equal(got, want) || gotOk != ok {
		t.Errorf("PartsOf(%.40q of %d bytes) = %.40q, %v, want %.40q, %v", line, len(line), got, gotOk, want, ok)
	}
}

func TestPartsStandBetweenBlanks(t *testing.T) {
	checkParts(t, "tick", []string{"tick"}, true)
	checkParts(t, "tick 1 2", []string{"tick", "1", "2"}, true)
	checkParts(t, "  tick   1 2    ", []string{"tick", "1", "2"}, true)
	checkParts(t, " b a  b", []string{"b", "a", "b"}, true)
	checkParts(t, "!~ #,~!", []string{"!~", "#,~!"}, true)
	checkParts(t, "", nil, true)
	checkParts(t, " ", nil, true)
	checkParts(t, strings.Repeat(" ", 600), nil, true)
}

func TestPartsOfLimits(t *testing.T) {
	checkParts(t, strings.Repeat("w", 600), []string{strings.Repeat("w", 600)}, true)
	checkParts(t, "a"+strings.Repeat(" ", 598)+"b", []string{"a", "b"}, true)
	for _, line := range []string{strings.Repeat("w", 601), strings.Repeat(" ", 601), "a" + strings.Repeat(" ", 600), strings.Repeat("w", 100000)} {
		checkParts(t, line, nil, false)
	}
	ten := strings.Fields("0 1 2 3 4 5 6 7 8 9")
	checkParts(t, "0 1 2 3 4 5 6 7 8 9", ten, true)
	checkParts(t, "  0 1  2 3 4 5 6 7 8 9  ", ten, true)
	checkParts(t, "0 1 2 3 4 5 6 7 8 9 x", nil, false)
	checkParts(t, strings.Repeat("x ", 300), nil, false)
}

func TestPartsOfEachByte(t *testing.T) {
	for b := range 256 {
		sign := string([]byte{byte(b)})
		switch {
		case b == 32:
			checkParts(t, "a"+sign+"b", []string{"a", "b"}, true)
		case b > 32 && b <= 126:
			checkParts(t, "a"+sign+"b", []string{"a" + sign + "b"}, true)
		default:
			checkParts(t, sign, nil, false)
			checkParts(t, sign+" a b", nil, false)
			checkParts(t, "a"+sign+"b", nil, false)
			checkParts(t, "a b "+sign, nil, false)
		}
	}
}

// Promise 1, of numbers: what VarText and Decimal write is read back.
func TestPromise1Numbers(t *testing.T) {
	check := func(n int) {
		text, ok := impl.VarText(n)
		if !ok {
			t.Fatalf("VarText(%d) is refused", n)
		}
		checkReadVar(t, "\x80"+text+"\x01", 1, n, 1+len(text), true)
		checkReadDecimal(t, impl.Decimal(n), n, true)
	}
	for n := range 70000 {
		check(n)
	}
	for n := 70000; n <= impl.MaxNumber; n += 9973 {
		check(n)
	}
	for n := impl.MaxNumber - 1000; n <= impl.MaxNumber; n++ {
		check(n)
	}
}

// Promise 1, of texts: what ShortText and Hex write is read back.
func TestPromise1Texts(t *testing.T) {
	bytes := make([]byte, 20000)
	for i := range bytes {
		bytes[i] = byte(i*7 + i/256)
	}
	whole := string(bytes)
	lengths := []int{19998, 19999, 20000, 16383, 16384}
	for long := range 600 {
		lengths = append(lengths, long)
	}
	for _, long := range lengths {
		s := whole[20000-long:]
		text, ok := impl.ShortText(s)
		if !ok {
			t.Fatalf("ShortText of %d bytes is refused", long)
		}
		checkReadShort(t, "\x80"+text+"\x01", 1, s, 1+len(text), true)
		figures, ok := impl.Hex(s)
		if !ok {
			t.Fatalf("Hex of %d bytes is refused", long)
		}
		checkUnhex(t, figures, s, true)
	}
}

// Several texts written one behind the other are read one behind the other.
func TestReadOneBehindTheOther(t *testing.T) {
	words := []string{"", "a", strings.Repeat("b", 128), "", "\xff\x80"}
	text := ""
	for _, word := range words {
		part, _ := impl.ShortText(word)
		text += part
	}
	at := 0
	for _, word := range words {
		s, behind, ok := impl.ReadShort(text, at)
		if s != word || !ok {
			t.Fatalf("ReadShort at %d = %.20q, %v, want %.20q", at, s, ok, word)
		}
		at = behind
	}
	if at != len(text) {
		t.Errorf("the last text ends at %d, want %d", at, len(text))
	}
}

func TestWordsAnswerInNewMemory(t *testing.T) {
	text := strings.Clone("\x05words and   more ")
	s, _, _ := impl.ReadShort(text, 0)
	parts, _ := impl.PartsOf(text[1:])
	short, _ := impl.ShortText(text)
	for _, answer := range append(parts, s, short) {
		if sharesMemory(answer, text) {
			t.Errorf("the answer %q shares memory with the argument", answer)
		}
	}
}

func sharesMemory(a string, b string) bool {
	if a == "" || b == "" {
		return false
	}
	fromA, fromB := uintptr(unsafe.Pointer(unsafe.StringData(a))), uintptr(unsafe.Pointer(unsafe.StringData(b)))
	return fromA < fromB+uintptr(len(b)) && fromB < fromA+uintptr(len(a))
}
