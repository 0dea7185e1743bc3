package tests

import (
	"encoding/binary"
	"hash/crc32"
	"math"
	"strings"
	"testing"

	"loop.example/g00190/impl"
)

// The document's words, bit by bit.
func sumBitByBit(sum uint32, text string) uint32 {
	for i := range len(text) {
		sum ^= uint32(text[i])
		for range 8 {
			odd := sum%2 == 1
			sum /= 2
			if odd {
				sum ^= 3558460437
			}
		}
	}
	return sum
}

// The same sum by the library, which turns every bit ahead of its work and behind it.
func sumByLibrary(text string) uint32 {
	return ^crc32.Checksum([]byte(text), crc32.MakeTable(3558460437))
}

var sumTexts = []string{
	"", "\x00", "\x01", "\x0f", "\x10", "\x80", "\xff", "\x00\x00", "\x00\x00\x00\x00", "\xff\xff\xff\xff", "\x80\x00", "\x00\x80",
	"abc", "acb", "cba", "123456789", "a longer text\nof \xe4\xf6\xfc bytes",
	strings.Repeat("\x00", 300), strings.Repeat("\xff", 300), strings.Repeat("paint ", 4000),
}

var firstSums = []uint32{0, 1, 2, 128, 255, 256, 0x80000000, 0x7fffffff, 3558460437, 0x12345678, 4294967294, 4294967295}

func checkSumMore(t *testing.T, sum uint32, text string, want uint32) {
	t.Helper()
	if got := impl.SumMore(sum, text); got != want {
		t.Errorf("SumMore(%d, %.20q of %d bytes) = %d, want %d", sum, text, len(text), got, want)
	}
}

func checkSumOf(t *testing.T, text string, want uint32) {
	t.Helper()
	if got := impl.SumOf(text); got != want {
		t.Errorf("SumOf(%.20q of %d bytes) = %d, want %d", text, len(text), got, want)
	}
}

func TestSumMoreWrittenOut(t *testing.T) {
	checkSumMore(t, 0, "", 0)
	checkSumMore(t, 4294967295, "", 4294967295)
	checkSumMore(t, 0, "\x00", 0)
	checkSumMore(t, 0, "\x80", 3558460437)
	checkSumMore(t, 128, "\x00", 3558460437)
	checkSumMore(t, 128, "\x80", 0)
	checkSumMore(t, 0, "\xff", 2170173475)
	checkSumMore(t, 256, "\x00", 1)
	checkSumMore(t, 4294967295, "\x00", 2175125468)
	checkSumMore(t, 4294967295, "\x80", 1438387145)
	checkSumMore(t, 4294967295, "\xff", 16777215)
	// The check value of this sum that is known elsewhere, of which every bit is turned.
	checkSumMore(t, 4294967295, "123456789", ^uint32(0x87315576))
}

func TestSumMoreOfEveryByte(t *testing.T) {
	for _, sum := range firstSums {
		for b := range 256 {
			text := string([]byte{byte(b)})
			checkSumMore(t, sum, text, sumBitByBit(sum, text))
		}
	}
}

func TestSumMoreOfTexts(t *testing.T) {
	for _, sum := range firstSums {
		for _, text := range sumTexts {
			checkSumMore(t, sum, text, sumBitByBit(sum, text))
		}
	}
}

func TestSumOf(t *testing.T) {
	checkSumOf(t, "", 4294967295)
	checkSumOf(t, "\x00", 2175125468)
	checkSumOf(t, "\x80", 1438387145)
	checkSumOf(t, "\xff", 16777215)
	for _, text := range sumTexts {
		checkSumOf(t, text, sumByLibrary(text))
	}
	// Sums know no MaxText.
	long := strings.Repeat("\x5a", 100001)
	checkSumOf(t, long, sumByLibrary(long))
}

// Promise 2, of sums: SumMore goes on where SumOf stopped.
func TestPromise2GoesOn(t *testing.T) {
	whole := "a text that is cut \x00\x80\xff at every place"
	for cut := range len(whole) + 1 {
		first, rest := whole[:cut], whole[cut:]
		checkSumMore(t, impl.SumOf(first), rest, impl.SumOf(whole))
		for _, sum := range firstSums {
			checkSumMore(t, impl.SumMore(sum, first), rest, impl.SumMore(sum, whole))
		}
	}
	sum := uint32(math.MaxUint32)
	for i := range len(whole) {
		sum = impl.SumMore(sum, whole[i:i+1])
	}
	checkSumOf(t, whole, sum)
}

func sealedByHand(text string) string {
	return text + string(binary.BigEndian.AppendUint32(nil, sumByLibrary(text)))
}

func checkSealed(t *testing.T, text string, want string, ok bool) {
	t.Helper()
	if got, gotOk := impl.Sealed(text); got != want || gotOk != ok {
		t.Errorf("Sealed(%.20q of %d bytes) = %.20q of %d bytes, %v, want %.20q of %d bytes, %v",
			text, len(text), got, len(got), gotOk, want, len(want), ok)
	}
}

func checkUnsealed(t *testing.T, text string, want string, ok bool) {
	t.Helper()
	if got, gotOk := impl.Unsealed(text); got != want || gotOk != ok {
		t.Errorf("Unsealed(%.20q of %d bytes) = %.20q of %d bytes, %v, want %.20q of %d bytes, %v",
			text, len(text), got, len(got), gotOk, want, len(want), ok)
	}
}

func patterned(long int) string {
	bytes := make([]byte, long)
	for i := range bytes {
		bytes[i] = byte(i*31 + i/256)
	}
	return string(bytes)
}

func TestSealedWritesTheSumBehind(t *testing.T) {
	checkSealed(t, "", "\xff\xff\xff\xff", true)
	// 1438387145 is 0x55bc0bc9: four bytes that all differ, the highest first.
	checkSealed(t, "\x80", "\x80\x55\xbc\x0b\xc9", true)
	checkSealed(t, "\xff", "\xff\x00\xff\xff\xff", true)
	for _, text := range sumTexts {
		if len(text) <= 20000 {
			checkSealed(t, text, sealedByHand(text), true)
		}
	}
}

func TestSealedLimit(t *testing.T) {
	for _, long := range []int{19999, 20000} {
		text := patterned(long)
		checkSealed(t, text, sealedByHand(text), true)
	}
	for _, long := range []int{20001, 20002, 20004, 20005, 100000} {
		checkSealed(t, patterned(long), "", false)
	}
}

func TestUnsealedReadsWhatSealedWrote(t *testing.T) {
	lengths := []int{19999, 20000}
	for long := range 70 {
		lengths = append(lengths, long)
	}
	for _, long := range lengths {
		text := patterned(long)
		sealed, ok := impl.Sealed(text)
		if !ok {
			t.Fatalf("Sealed of %d bytes is refused", long)
		}
		checkUnsealed(t, sealed, text, true)
		checkUnsealed(t, sealedByHand(text), text, true)
	}
	checkUnsealed(t, "\xff\xff\xff\xff", "", true)
	twice, _ := impl.Sealed(sealedByHand("inner"))
	checkUnsealed(t, twice, sealedByHand("inner"), true)
}

func TestUnsealedRefusesShortTexts(t *testing.T) {
	for _, text := range []string{"", "\x00", "\xff", "\xff\xff", "\xff\xff\xff", "\x00\x00\x00", "abc"} {
		checkUnsealed(t, text, "", false)
	}
	for _, text := range []string{"\x00\x00\x00\x00", "abcd", "\xff\xff\xff\xfe", "\x7f\xff\xff\xff"} {
		checkUnsealed(t, text, "", false)
	}
}

func TestUnsealedRefusesLongTexts(t *testing.T) {
	for _, long := range []int{20001, 20002, 40000} {
		checkUnsealed(t, sealedByHand(patterned(long)), "", false)
	}
	checkUnsealed(t, sealedByHand(patterned(20000)), patterned(20000), true)
}

func TestUnsealedRefusesMoreAndFewerBytes(t *testing.T) {
	for _, text := range []string{"\x01", "abc", "abcdefgh", patterned(300)} {
		sealed := sealedByHand(text)
		checkUnsealed(t, sealed[1:], "", false)
		checkUnsealed(t, sealed[:len(sealed)-1], "", false)
		checkUnsealed(t, text, "", false)
		for b := range 256 {
			one := string([]byte{byte(b)})
			checkUnsealed(t, sealed+one, "", false)
			checkUnsealed(t, one+sealed, "", false)
		}
	}
}

// The sum stands in one order alone, and unturned: the forms of other programs are refused.
func TestUnsealedRefusesOtherOrders(t *testing.T) {
	for _, text := range []string{"\x80", "abc", "123456789"} {
		sum := sumByLibrary(text)
		checkUnsealed(t, text+string(binary.LittleEndian.AppendUint32(nil, sum)), "", false)
		checkUnsealed(t, text+string(binary.BigEndian.AppendUint32(nil, ^sum)), "", false)
		checkUnsealed(t, string(binary.BigEndian.AppendUint32(nil, sum))+text, "", false)
	}
}

// Promise 2, of texts: one that has one byte turned is never Unsealed.
func TestPromise2OneByteTurned(t *testing.T) {
	for _, text := range []string{"", "\x00", "\xff", "abc", "\x00\x00\x00\x00\x00", patterned(64)} {
		sealed := sealedByHand(text)
		for at := range len(sealed) {
			for turn := 1; turn < 256; turn++ {
				turned := []byte(sealed)
				turned[at] ^= byte(turn)
				checkUnsealed(t, string(turned), "", false)
			}
		}
	}
}

func TestPromise2OneByteTurnedInALongText(t *testing.T) {
	turned := []byte(sealedByHand(patterned(20000)))
	for at := 0; at < len(turned); at += 997 {
		for _, turn := range []byte{1, 2, 16, 128, 255} {
			turned[at] ^= turn
			checkUnsealed(t, string(turned), "", false)
			turned[at] ^= turn
		}
	}
	checkUnsealed(t, string(turned), patterned(20000), true)
}

func TestSumsAnswerInNewMemory(t *testing.T) {
	text := sealedByHand("a text of its own")
	inner, _ := impl.Unsealed(text)
	sealed, _ := impl.Sealed(text)
	for _, answer := range []string{inner, sealed} {
		if answer == "" || sharesMemory(answer, text) {
			t.Errorf("the answer %q shares memory with the argument", answer)
		}
	}
}
