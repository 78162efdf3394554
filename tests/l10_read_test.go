package tests

import (
	"fmt"
	"strings"
	"testing"

	"loop.example/g00641/impl"
)

// faultyTexts are texts of lines that are no record's with that No, in all else as a line should be.
func faultyTexts(no int) []string {
	l := []string{}
	for _, form := range []string{
		// Needless noughts, signs and other forms of numbers.
		"0N d 5", "00N d 5", "+N d 5", "-N d 5", "N. d 5", "N.0 d 5", "0xN d 5", "Ne0 d 5", "N_0 d 5", "n d 5", "- d 5",
		"N d 05", "N d 00", "N d +5", "N d -5", "N d -0", "N d +0", "N d -", "N d --", "N d 5.0", "N d 0x5", "N d 5e1", "N d 1_0", "N d five", "N d 1000", "N d 1001", "N d 99999999999999999999", "N d 9223372036854775808", "N d 18446744073709551621",
		"N p 05 1 2 3", "N p -5 1 2 3", "N p -0 1 2 3", "N p +5 1 2 3", "N p - 1 2 3", "N p 1000 1 2 3", "N p 18446744073709551621 1 2 3",
		"N p 5 01 2 3", "N p 5 1 02 3", "N p 5 1 2 03", "N p 5 00 2 3", "N p 5 1 2 000", "N p 5 -01 2 3", "N p 5 1 -02 3",
		"N p 5 -0 2 3", "N p 5 1 -0 3", "N p 5 1 2 -0", "N p 5 +1 2 3", "N p 5 1 +2 3", "N p 5 1 2 +3", "N p 5 +0 2 3", "N p 5 1 2 +", "N p 5 -- 2 3", "N p 5 1 --2 3", "N p 5 1 2 3-", "N p 5 -+1 2 3",
		"N p 5 1001 2 3", "N p 5 1 -1001 3", "N p 5 1 2 1001", "N p 5 1 2 99999", "N p 5 18446744073709551617 2 3", "N p 5 -18446744073709551615 2 3", "N p 5 null 2 3", "N p 5 1 x 3", "N p 5 1 2 0x3", "N p 5 1.0 2 3", "N p 5 1 1_0 3",
		// Blanks that are too many or too few, and other signs in their place.
		"N  d 5", "N d  5", " N d 5", "N d 5 ", "  N d 5", "N d 5  ", "Nd 5", "N d5", "Nd5", "N\td 5", "N d\t5", "N\vd 5", "N\u00a0d 5", "N d 5\r", "N d 5\t", "\tN d 5",
		"N  p 5 1 2 3", "N p  5 1 2 3", "N p 5  1 2 3", "N p 5 1  2 3", "N p 5 1 2  3", " N p 5 1 2 3", "N p 5 1 2 3 ", "N p 5 1\t2 3", "N p 5 12 3", "N p5 1 2 3",
		// Unknown letters.
		"N x 5", "N D 5", "N P 5 1 2 3", "N dp 5", "N pd 5 1 2 3", "N dd 5", "N pp 5 1 2 3", "N  5", "N   1 2 3", "N 5", "N 5 1 2 3", "N - 5", "N 0 5", "N x 5 1 2 3", "N put 5 1 2 3", "N drop 5", "N \xd0\xb4 5",
		// Too few and too many values.
		"N d", "N p", "N", "", " ", "  ", "   ", "d", "d 5", "p 5 1 2 3", "N d 5 1", "N d 5 -", "N d 5 1 2", "N d 5 1 2 3", "N d 5 - - -", "N d 5 1 2 3 4", "N p 5", "N p 5 1", "N p 5 1 2", "N p 5 - -", "N p 5 1 2 3 4", "N p 5 - - - -", "N p 5 1 2 3 -", "N p 5 1 2 3 4 5 6", "N p 5 1 2 ", "N p 5 1  ", "N p 5   ",
		// Bytes 0 and above 127.
		"N d 5\x00", "\x00N d 5", "N\x00d 5", "N \x00 5", "N d \x00", "N d\x005", "N d 5\xff", "N d \xb5", "N \xe4 5", "\xef\xbb\xbfN d 5", "N p 5 1 2 3\x00", "N p 5 1 \x80 3", "N p 5 \x00 2 3", "N d \xd9\xa5", "N p 5 \xe2\x88\x921 2 3",
	} {
		l = append(l, strings.ReplaceAll(form, "N", fmt.Sprint(no)))
	}
	// Nos out of their turn.
	for _, other := range []int{0, 1, 2, 3, 4, 5, 6, 40, 41, 199, 200, 201, 1000, -1} {
		if other != no {
			l = append(l, fmt.Sprint(other, " d 5"), fmt.Sprint(other, " p 5 1 2 3"))
		}
	}
	return l
}

// faultyLines are those texts with their sums behind them, and good texts with other ends.
func faultyLines(no int) []string {
	l := []string{}
	for _, text := range faultyTexts(no) {
		l = append(l, lineBy(text))
	}
	for _, text := range []string{fmt.Sprint(no, " d 5"), fmt.Sprint(no, " p 5 1 2 3")} {
		sum := bytesSum(text)
		for _, end := range []string{
			fmt.Sprint(" ", sum+1), fmt.Sprint(" ", sum-1), fmt.Sprint(" ", sum+9973), fmt.Sprint(" ", sum-9973), fmt.Sprint(" 0", sum), fmt.Sprint(" 00", sum), fmt.Sprint(" +", sum), fmt.Sprint(" -", sum), fmt.Sprint("  ", sum), fmt.Sprint(" ", sum, " "), fmt.Sprint(" ", sum, " ", sum), fmt.Sprint("\t", sum), fmt.Sprint(sum), fmt.Sprint(" ", sum, "\r"), fmt.Sprint(" ", sum, "\x00"), fmt.Sprint(" ", sum, ".0"),
			fmt.Sprint(" ", bytesSum(text+" ")), fmt.Sprint(" ", bytesSum(" "+text)), fmt.Sprint(" ", bytesSum(text[1:])), fmt.Sprint(" ", bytesSum(text+"\n")), fmt.Sprintf(" %x", sum+4096), "", " ", " -", " x", " 0", " 18446744073709551616",
		} {
			l = append(l, text+end+"\n")
		}
	}
	return l
}

// The records ahead of a faulty line are told, those behind it are not.
func TestReadLogOfFaultyLines(t *testing.T) {
	ahead := logOf("p5 d7 p999 d0")
	many := 0
	for at := range 5 {
		first := wantedText(ahead[:at])
		for _, line := range faultyLines(at + 1) {
			for _, behind := range []string{"", lineBy(fmt.Sprint(at+1, " d 5")), lineBy(fmt.Sprint(at+2, " d 5")), "\n", "x"} {
				many++
				wantRead(t, "a fault behind "+fmt.Sprint(at), first+line+behind, ahead[:at], len(first))
				wantRead(t, "a fault without its end", first+strings.TrimSuffix(line, "\n"), ahead[:at], len(first))
			}
		}
	}
	if many < 4000 {
		t.Errorf("%d faults were asked for", many)
	}
}

func TestReadLogPlainly(t *testing.T) {
	a, b := logOf("d5"), logOf("d5 d6")
	wantRead(t, "no text", "", nil, 0)
	wantRead(t, "one line", "1 d 5 806\n", a, 10)
	wantRead(t, "one line without its end", "1 d 5 806", nil, 0)
	wantRead(t, "two lines", "1 d 5 806\n2 d 6 812\n", b, 20)
	wantRead(t, "two lines of which one is without its end", "1 d 5 806\n2 d 6 812", a, 10)
	wantRead(t, "a line of nothing behind", "1 d 5 806\n\n2 d 6 812\n", a, 10)
	wantRead(t, "a line of nothing ahead", "\n1 d 5 806\n", nil, 0)
	wantRead(t, "byte 13 behind", "1 d 5 806\r\n2 d 6 812\r\n", nil, 0)
	wantRead(t, "a wrong sum", "1 d 5 805\n", nil, 0)
	wantRead(t, "the sum with the blank ahead of it", "1 d 5 998\n", nil, 0)
	wantRead(t, "the sum by places from 0 on", "1 d 5 540\n", nil, 0)
	wantRead(t, "no sum", "1 d 5\n", nil, 0)
	wantRead(t, "the second line first", "2 d 6 812\n1 d 5 806\n", nil, 0)
	wantRead(t, "the first line twice", "1 d 5 806\n1 d 5 806\n", a, 10)
	wantRead(t, "all values missing", "1 p 5 - - - 2825\n", []impl.Record{put(1, 5, null, null, null)}, 17)
	wantRead(t, "values of both signs", "1 d 5 806\n2 p 5 -1 - 1 3420\n", []impl.Record{drop(1, 5), put(2, 5, number(-1), null, number(1))}, 28)
}

func TestReadLogAtMaxLog(t *testing.T) {
	for many := 38; many <= 45; many++ {
		for _, word := range []string{"d5 ", "d0 "} {
			l := logOf(strings.Repeat(word, many))
			told := min(many, 40)
			wantRead(t, fmt.Sprint("records ", many), wantedText(l), l[:told], endsOf(l)[told])
		}
	}
	most := logOf(strings.Repeat("d5 ", 40))
	text := wantedText(most)
	for _, behind := range []string{"x", "\n", "41 d 5", "\x00\xff", strings.Repeat("\n", 600-len(text)), strings.Repeat("x", 600-len(text))} {
		wantRead(t, "the most records and more", text+behind, most, len(text))
	}
	refusedRead(t, "the most records and too much behind", text+strings.Repeat("\n", 601-len(text)))
}

func TestReadLogAtMaxText(t *testing.T) {
	for _, piece := range []string{"x", "\n", " ", "1 d 5 806\n", "1", "-", "\x00", "\xff", "1 d 5\n", "1 p 5 "} {
		for many := 595; many <= 610; many++ {
			text := strings.Repeat(piece, 700)[:many]
			if many <= 600 {
				want, at := wantedRead(text)
				wantRead(t, fmt.Sprint(many, " bytes"), text, want, at)
			} else {
				refusedRead(t, fmt.Sprint(many, " bytes of ", piece), text)
			}
		}
	}
	refusedRead(t, "a long text", strings.Repeat("1 d 5 806\n", 100000))
	refusedRead(t, "a good line and much behind", "1 d 5 806\n"+strings.Repeat("x", 591))
	wantRead(t, "a good line and all that may be behind", "1 d 5 806\n"+strings.Repeat("x", 590), logOf("d5"), 10)
}

// Each byte of a text is made each other one, is left out, or has one ahead of it; then it is read as the pattern says. Once the sums stay as they were, once the changed line has its own.
func TestReadLogOfChangedBytes(t *testing.T) {
	changed, good := 0, 0
	check := func(text string) {
		want, at := wantedRead(text)
		changed++
		if len(want) > 1 {
			good++
		}
		wantRead(t, "a changed text", text, want, at)
	}
	first := wantedText(logOf("d5"))
	for _, line := range []string{"2 d 10", "2 p 7 -1 - 10", "2 p 999 -1000 0 1000"} {
		for at := range len(line) + 1 {
			for b := range 256 {
				sign := string([]byte{byte(b)})
				if at < len(line) {
					check(first + lineBy(line[:at]+sign+line[at+1:]))
					check(first + lineBy(line)[:at] + sign + lineBy(line)[at+1:])
				}
				check(first + lineBy(line[:at]+sign+line[at:]))
				check(first + lineBy(line)[:at] + sign + lineBy(line)[at:])
			}
			if at < len(line) {
				check(first + lineBy(line[:at]+line[at+1:]))
				check(first + lineBy(line)[:at] + lineBy(line)[at+1:])
			}
		}
	}
	if changed < 30000 || good < 300 || changed-good < 20000 {
		t.Errorf("%d texts were changed, %d of them read whole", changed, good)
	}
}

// A whole text, with some byte changed at each place, by each of some signs.
func TestReadLogOfChangedTexts(t *testing.T) {
	for i, l := range shortLogs() {
		text := wantedText(l)
		want, at := wantedRead(text)
		wantRead(t, "as it was", text, want, at)
		for at := i % 11; at < len(text); at += 11 {
			for _, sign := range []string{"", "0", "1", "-", " ", "\n", "d", "p", "\x00"} {
				changed := text[:at] + sign + text[at+1:]
				want, at := wantedRead(changed)
				wantRead(t, "a changed text", changed, want, at)
			}
		}
	}
}

func TestCutLogPlainly(t *testing.T) {
	text := "1 d 5 806\n2 d 6 812\n"
	l := logOf("d5 d6")
	for keep, want := range map[int]int{0: 0, 1: 0, 5: 0, 9: 0, 10: 1, 11: 1, 18: 1, 19: 1, 20: 2} {
		wantCut(t, text, keep, l[:want])
	}
	wantCut(t, "", 0, nil)
	wantCut(t, text+"x", 21, l)
	wantCut(t, "x"+text, 21, nil)
	for _, keep := range append([]int{-21, -20, -2, -1, 21, 22, 600, 601}, extremes...) {
		refusedCut(t, text, keep)
	}
	for _, keep := range append([]int{-1, 1, 2}, extremes...) {
		refusedCut(t, "", keep)
	}
}

// A text that is cut in the midst of a line may be a good line's in its own right: the sum and byte 10 are what tells.
func TestCutLogOfAnyText(t *testing.T) {
	for _, line := range faultyLines(2) {
		text := wantedText(logOf("p5")) + line + wantedText(logOf("d5 d5"))
		for keep := range len(text) + 1 {
			want, _ := wantedRead(text[:keep])
			wantCut(t, text, keep, want)
		}
	}
}

// It is the kept bytes that are at most MaxText, however many are cut off.
func TestCutLogOfLongTexts(t *testing.T) {
	for _, many := range []int{599, 600, 601, 602} {
		l := logOfBytes(many)
		text := wantedText(l)
		for _, whole := range []string{text, text + strings.Repeat("x", 10), text + strings.Repeat("\n", 5000)} {
			for i, keep := range endsOf(l) {
				if keep <= 600 {
					wantCut(t, whole, keep, l[:i])
				}
			}
			if len(whole) >= 600 {
				want := l[:len(l)-1]
				if many <= 600 {
					want = l
				}
				wantCut(t, whole, 600, want)
			}
			for _, keep := range []int{601, 602, 610, len(whole), len(whole) + 1} {
				if keep > 600 {
					refusedCut(t, whole, keep)
				}
			}
		}
	}
}
