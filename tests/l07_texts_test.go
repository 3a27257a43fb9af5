package tests

import (
	"fmt"
	"hash/crc32"
	"math"
	"reflect"
	"regexp"
	"slices"
	"strconv"
	"strings"
	"testing"

	"loop.example/g00552/impl"
)

const mostSaved = impl.MaxSaved

// crcByHand reckons bit by bit, as the document has it.
func crcByHand(s string) int {
	rest := 4294967295
	for i := range len(s) {
		rest ^= int(s[i])
		for range 8 {
			if rest%2 == 1 {
				rest = rest/2 ^ 3988292384
			} else {
				rest /= 2
			}
		}
	}
	return rest ^ 4294967295
}

// sealedByHand takes the sum from the library, whose polynomial is the one of the document.
func sealedByHand(s string) string {
	return s + "sum " + strconv.Itoa(int(crc32.ChecksumIEEE([]byte(s)))) + "\n"
}

// wordsBy tells a word and numbers with a blank between each two.
func wordsBy(word string, nums ...int) string {
	return word + strings.TrimSuffix(strings.ReplaceAll(fmt.Sprint(" ", nums), "[", ""), "]")
}

func paneByHand(word string, p impl.Pane) string {
	nums := append([]int{p.Win, p.Mask, p.Start, len(p.Key)}, p.Key...)
	return wordsBy(word, append(nums, p.A.N, p.A.Sum, p.A.Min, p.A.Max)...)
}

func rowByHand(r impl.Row) string {
	return paneByHand("row", paneOf(r)) + " " + strconv.Itoa(r.Times)
}

// bodyByHand tells the lines of a state, without the sum.
func bodyByHand(s impl.State) string {
	body := ""
	for i, off := range s.Offs {
		body += fmt.Sprintf("part %d %d\n", off, s.Marks[i])
	}
	body += fmt.Sprintf("drops %d\nbad %d\n", s.Drops, s.Bad)
	lines := []string{}
	for _, p := range s.Panes {
		lines = append(lines, paneByHand("pane", p)+"\n")
	}
	for _, r := range s.Rows {
		lines = append(lines, rowByHand(r)+"\n")
	}
	return body + strings.Join(lines, "")
}

const numForm = `(0|-?[1-9][0-9]*)`

var rowForm = regexp.MustCompile(`\Arow( ` + numForm + `)+\z`)

var bodyForm = regexp.MustCompile(`\A(part ` + numForm + ` ` + numForm + `\n)+drops ` + numForm + `\nbad ` + numForm + `\n(pane( ` + numForm + `)+\n)*(row( ` + numForm + `)+\n)*\z`)

// numsByHand tells the numbers behind the first word, where each has 64 bits.
func numsByHand(line string) ([]int, bool) {
	nums := []int{}
	for _, word := range strings.Split(line, " ")[1:] {
		n, err := strconv.ParseInt(word, 10, 64)
		if err != nil {
			return nil, false
		}
		nums = append(nums, int(n))
	}
	return nums, true
}

// paneFromByHand tells a pane and the numbers behind it; its key is as long as it says, of at most 3.
func paneFromByHand(nums []int) (impl.Pane, []int, bool) {
	if len(nums) < 4 || nums[3] < 0 || nums[3] > 3 || len(nums) < 8+nums[3] {
		return impl.Pane{}, nil, false
	}
	k := nums[3]
	return pane(nums[0], nums[1], nums[2], agg(nums[4+k], nums[5+k], nums[6+k], nums[7+k]), nums[4:4+k]...), nums[8+k:], true
}

// readRowByForm tells what a row's text says, told without what reads it in the program.
func readRowByForm(c impl.Config, s string) (impl.Row, bool) {
	if !rowForm.MatchString(s) {
		return impl.Row{}, false
	}
	nums, fits := numsByHand(s)
	p, rest, ok := paneFromByHand(nums)
	if !fits || !ok || len(rest) != 1 || rest[0] < 1 || rest[0] > 1000 || !impl.PanesOk(c, []impl.Pane{p}) {
		return impl.Row{}, false
	}
	return rowOf(p, rest[0]), true
}

// readBodyByForm tells what the lines of a state say, told without what reads them in the program.
func readBodyByForm(c impl.Config, body string) (impl.State, bool) {
	s := impl.State{}
	if !bodyForm.MatchString(body) {
		return s, false
	}
	for _, line := range strings.Split(strings.TrimSuffix(body, "\n"), "\n") {
		nums, ok := numsByHand(line)
		if !ok {
			return impl.State{}, false
		}
		p, rest, fits := impl.Pane{}, []int{}, true
		switch word, _, _ := strings.Cut(line, " "); word {
		case "part":
			s.Offs, s.Marks = append(s.Offs, nums[0]), append(s.Marks, nums[1])
		case "drops":
			s.Drops = nums[0]
		case "bad":
			s.Bad = nums[0]
		case "pane":
			p, rest, ok = paneFromByHand(nums)
			s.Panes, fits = append(s.Panes, p), ok && len(rest) == 0
		case "row":
			if p, rest, ok = paneFromByHand(nums); ok && len(rest) == 1 {
				s.Rows = append(s.Rows, rowOf(p, rest[0]))
			} else {
				fits = false
			}
		}
		if !fits {
			return impl.State{}, false
		}
	}
	return s, impl.StateOk(c, s)
}

func refusesRow(t *testing.T, c impl.Config, s string) {
	t.Helper()
	if got, ok := impl.RowRead(c, s); ok || !reflect.ValueOf(got).IsZero() {
		t.Errorf("RowRead(%v, %.200q) = %v, %v; want nothing, false", c, s, got, ok)
	}
}

func refusesState(t *testing.T, c impl.Config, s string) {
	t.Helper()
	if got, ok := impl.StateRead(c, s); ok || !reflect.ValueOf(got).IsZero() {
		t.Errorf("StateRead(%v, %.900q) = %.300v, %v; want nothing, false", c, s, fmt.Sprint(got), ok)
	}
}

func refusesSeal(t *testing.T, s string) {
	t.Helper()
	if got, ok := impl.Unsealed(s); ok || got != "" {
		t.Errorf("Unsealed(%.200q) = %.200q, %v; want an empty text, false", s, got, ok)
	}
}

// keepsState asks for a state's text by hand, and for the state that is read from it.
func keepsState(t *testing.T, c impl.Config, s impl.State) {
	t.Helper()
	text := sealedByHand(bodyByHand(s))
	if got := impl.StateText(c, s); got != text {
		t.Fatalf("StateText(%v, %.300v) = %.900q; want %.900q", c, fmt.Sprint(s), got, text)
	}
	if got, ok := impl.StateRead(c, text); !ok || !sameState(got, s) {
		t.Fatalf("StateRead(%v, %.900q) = %.300v, %v; want %.300v", c, text, fmt.Sprint(got), ok, fmt.Sprint(s))
	}
}

// flips tells every text that comes of s by one bit turned, or of each step-th bit.
func flips(s string, step int) func(yield func(string) bool) {
	return func(yield func(string) bool) {
		list := []byte(s)
		for bit := 0; bit < 8*len(list); bit += step {
			list[bit/8] ^= 1 << (bit % 8)
			more := yield(string(list))
			list[bit/8] ^= 1 << (bit % 8)
			if !more {
				return
			}
		}
	}
}

// ordinaryTexts holds texts of any bytes: such that end without a byte 10, that are sealed, and that have the word of a seal in them.
func ordinaryTexts() []string {
	list := []string{
		"", "a", "\n", "\x00", "\xff", "\x00\x00\x00\x00", "\xff\xff\xff\xff", allBytes(), allBytes() + allBytes(), "123456789", "part 1 -5\ndrops 2\n",
		"no byte 10 at the end", "one at the end\n", "two\n\n", "sum", "sum ", "sum \n", "sum 0", "sum 0\n", "sum 1\n", "the sum of it", "the sum of it\n", "a sum 5 b", "sum sum sum ", "ssum 0\n",
		"Ünïcödé ✓\n", strings.Repeat("0", 100000), strings.Repeat("sum 0\n", 500),
	}
	for _, s := range slices.Clone(list) {
		list = append(list, sealedByHand(s), sealedByHand(sealedByHand(s)))
	}
	return list
}

func TestLimitOfTexts(t *testing.T) {
	if impl.MaxSaved != 60000 {
		t.Fatal(impl.MaxSaved)
	}
}

func TestCrc(t *testing.T) {
	for s, want := range map[string]int{
		// Of no byte, both exclusive ors leave nothing. Of the byte 255, eight shifts of 0xffffff00 leave 0x00ffffff.
		"": 0, "\xff": 0xff000000, "\xff\xff": 0xffff0000, "\xff\xff\xff\xff": 0xffffffff,
		"\x00": 0xd202ef8d, "a": 0xe8b7be43, "abc": 0x352441c2, "123456789": 3421780262, "message digest": 0x20159d7f,
		"abcdefghijklmnopqrstuvwxyz": 0x4c2750bd, "The quick brown fox jumps over the lazy dog": 0x414fa339,
		strings.Repeat("\x00", 32): 0x190a55ad, strings.Repeat("\xff", 32): 0xff6cab0b, allBytes(): 0x29058c73,
	} {
		if got := impl.Crc(s); got != want {
			t.Errorf("Crc(%q) = %d; want %d", s, got, want)
		}
	}
}

func TestCrcIsTheOneReckonedByHand(t *testing.T) {
	list := ordinaryTexts()
	for one := range 256 {
		list = append(list, string([]byte{byte(one)}), string([]byte{0, byte(one)}), string([]byte{byte(one), 0}), string([]byte{byte(one), 'x', byte(one)}))
	}
	for _, s := range list {
		if got, want := impl.Crc(s), crcByHand(s); got != want || got < 0 || got > math.MaxUint32 {
			t.Errorf("Crc(%.200q) = %d; want %d", s, got, want)
		}
	}
}

func TestCrcTellsEachBitThatWasTurned(t *testing.T) {
	for _, s := range []string{"a", allBytes(), strings.Repeat("\x00", 700)} {
		seen := map[int]bool{impl.Crc(s): true}
		for turned := range flips(s, 1) {
			sum := impl.Crc(turned)
			if seen[sum] {
				t.Fatalf("Crc(%q) = %d, as of another one", turned, sum)
			}
			seen[sum] = true
		}
	}
}

func TestSealed(t *testing.T) {
	for s, want := range map[string]string{
		"": "sum 0\n", "123456789": "123456789sum 3421780262\n", "a": "asum 3904355907\n", "a\n": "a\nsum 3723141383\n", "sum 0\n": sealedByHand("sum 0\n"),
	} {
		if got := impl.Sealed(s); got != want {
			t.Errorf("Sealed(%q) = %q; want %q", s, got, want)
		}
	}
	for _, s := range ordinaryTexts() {
		if got := impl.Sealed(s); got != sealedByHand(s) {
			t.Errorf("Sealed(%.200q) = %.200q", s, got)
		}
	}
}

func TestUnsealedTakesWhatSealedWrites(t *testing.T) {
	for _, s := range ordinaryTexts() {
		if got, ok := impl.Unsealed(impl.Sealed(s)); !ok || got != s {
			t.Errorf("Unsealed of the sealed %.200q = %.200q, %v", s, got, ok)
		}
	}
}

func TestUnsealedRefuses(t *testing.T) {
	const whole = "123456789sum 3421780262\n"
	for _, s := range []string{
		"", "\n", "a", "a\n", "sum", "sum ", "sum \n", "sum 0", "sum\n", "sum0\n", "0\n", " 0\n", "um 0\n",
		"sum 1\n", "sum -0\n", "sum +0\n", "sum 00\n", "sum 0\n\n", "sum 0 \n", "sum  0\n", "sum\t0\n", "sum 0\r\n", "sum 0\nx", "sum 0\x00\n", "sum 0 0\n", "Sum 0\n", "SUM 0\n", "sun 0\n",
		"sum -1\n", "sum 4294967296\n", "sum 18446744073709551616\n", "sum 0x0\n", "sum 0.0\n", "sum zero\n",
		"123456789", "123456789\n", "123456789sum ", "123456789sum \n", "123456789 sum 3421780262\n", "12345678sum 3421780262\n", "1234567890sum 3421780262\n", "123456788sum 3421780262\n",
		"123456789sum 3421780262", "123456789sum 3421780262\n\n", "123456789sum 3421780262\nx", "123456789sum 3421780262\n\x00", "123456789sum 3421780262 ", "123456789sum 3421780262 \n",
		"123456789sum 03421780262\n", "123456789sum +3421780262\n", "123456789sum -3421780262\n", "123456789sum 3421780263\n", "123456789sum 3421780261\n", "123456789sum  3421780262\n",
		"123456789sum -873187034\n", "123456789sum 7716747558\n", "123456789sum cbf43926\n", "123456789sum 3421780262.\n", "123456789sum 3421780262sum 0\n", "123456789\nsum 3421780262\n",
		"sum 0\nsum 0\n", whole + whole, whole + "sum 0\n", whole + "sum 3421780262\n", whole[1:], "x" + whole, "\x00" + whole, "\n" + whole,
		strings.Repeat("sum ", 100000), strings.Repeat("sum 0\n", 100000), "sum " + strings.Repeat("0", 100000) + "\n", "sum " + strings.Repeat("9", 100000) + "\n",
	} {
		refusesSeal(t, s)
	}
	// Two texts, each of them sealed, are one that is not.
	for _, a := range ordinaryTexts()[:24] {
		refusesSeal(t, sealedByHand(a)+whole)
		refusesSeal(t, sealedByHand(a)+"x")
	}
}

func TestUnsealedTakesOnlyTexts(t *testing.T) {
	for _, s := range []string{"", "a", "a\n", "sum 0\n", "123456789", "\x00", allBytes()[:40]} {
		for _, near := range append(nearTexts(sealedByHand(s), "019 -+smu\n\x00\xff"), sealedByHand(s)) {
			got, ok := impl.Unsealed(near)
			if ok && sealedByHand(got) != near || !ok && got != "" {
				t.Errorf("Unsealed(%q) = %q, %v", near, got, ok)
			}
		}
	}
}

func TestUnsealedTellsEachBitThatWasTurned(t *testing.T) {
	for _, s := range ordinaryTexts() {
		if len(s) > 2000 {
			continue
		}
		for turned := range flips(impl.Sealed(s), 1) {
			refusesSeal(t, turned)
		}
	}
}

// rowsAndTexts holds rows with keys of no, one and several numbers, and their texts written out.
func rowsAndTexts() ([]impl.Row, []string) {
	rows := []impl.Row{
		row(0, 3, 0, one(7), 1), row(0, 3, -10, agg(3, 8, -2, 5), 2), row(1, 3, -5, one(0), 1000), row(2, 2, 15, one(-7), 999, 4),
		row(0, 0, -farStart, agg(most, most*bound, bound, bound), 10, 0, topDim), row(0, 1, farStart, agg(most, -most*bound, -bound, -bound), 1000, topDim, 0, 10),
	}
	return rows, []string{
		"row 0 3 0 0 1 7 7 7 1", "row 0 3 -10 0 3 8 -2 5 2", "row 1 3 -5 0 1 0 0 0 1000", "row 2 2 15 1 4 1 -7 -7 -7 999",
		"row 0 0 -200000 2 0 99 1000 1000000000 1000000 1000000 10", "row 0 1 200000 3 99 0 10 1000 -1000000000 -1000000 -1000000 1000",
	}
}

func TestRowTextAndRowRead(t *testing.T) {
	rows, texts := rowsAndTexts()
	for i, r := range rows {
		if got := impl.RowText(r); got != texts[i] {
			t.Errorf("RowText(%v) = %q; want %q", r, got, texts[i])
		}
		if got, ok := impl.RowRead(cubeConfig(), texts[i]); !ok || !sameRow(got, r) {
			t.Errorf("RowRead(%q) = %v, %v; want %v", texts[i], got, ok, r)
		}
	}
}

func TestRowsAreReadFromTheirTextAsTheyWere(t *testing.T) {
	count := 0
	for i, c := range operatorConfigs() {
		s, _ := impl.Fold(c, mixedLogs(c, i, 24, 24, 24), 72)
		for _, r := range append(s.Rows, impl.Closing(c, s)...) {
			text := rowByHand(r)
			if got, ok := impl.RowRead(c, text); impl.RowText(r) != text || !ok || !sameRow(got, r) {
				t.Fatalf("RowText(%v) = %q, RowRead(%q) = %v, %v", r, impl.RowText(r), text, got, ok)
			}
			count++
		}
	}
	if count < 1000 {
		t.Errorf("the logs are too dull: %d rows", count)
	}
}

// RowText asks for nothing but an A that is AggOk: no Config is there to hold the rest against.
func TestRowTextOfRowsThatNoConfigHas(t *testing.T) {
	for text, r := range map[string]impl.Row{
		"row 0 0 0 0 0 0 0 0 0":                                                           {},
		"row -1 -2 -3 0 1 7 7 7 -4":                                                       row(-1, -2, -3, one(7), -4),
		"row 3 4 1 5 100 -1 0 -100 5 2 3 -2 5 1001":                                       row(3, 4, 1, agg(2, 3, -2, 5), 1001, 100, -1, 0, -100, 5),
		"row 9223372036854775807 -9223372036854775808 5 0 1 0 0 0 7":                      row(math.MaxInt, math.MinInt, 5, one(0), 7),
		"row 0 0 -9223372036854775808 1 9223372036854775807 0 0 0 0 -9223372036854775808": row(0, 0, math.MinInt, impl.Agg{}, math.MinInt, math.MaxInt),
	} {
		if got := impl.RowText(r); got != text {
			t.Errorf("RowText(%v) = %q; want %q", r, got, text)
		}
		refusesRow(t, cubeConfig(), text)
	}
}

func TestRowTextRefusesAnAThatIsNotAggOk(t *testing.T) {
	for _, bad := range refusedAggs() {
		for _, r := range []impl.Row{row(0, 3, 0, bad, 1), row(0, 0, 0, bad, 5, 1, 2), {A: bad}} {
			if got := impl.RowText(r); got != "" {
				t.Errorf("RowText(%v) = %q; want an empty text", r, got)
			}
		}
		refusesRow(t, cubeConfig(), rowByHand(row(0, 3, 0, bad, 1)))
	}
}

func TestRowReadRefusesWhatIsNotPanesOk(t *testing.T) {
	for _, p := range refusedPanes() {
		refusesRow(t, cubeConfig(), rowByHand(rowOf(p, 1)))
	}
	for _, times := range append(farNumbers(), -1, 0, 1001) {
		if times != 64 {
			refusesRow(t, cubeConfig(), rowByHand(row(0, 3, 0, one(7), times)))
		}
	}
	for _, times := range []int{1, 2, 64, 999, 1000} {
		r := row(0, 3, 0, one(7), times)
		if got, ok := impl.RowRead(cubeConfig(), rowByHand(r)); !ok || !sameRow(got, r) {
			t.Errorf("RowRead of Times %d = %v, %v", times, got, ok)
		}
	}
	for _, c := range refusedConfigs() {
		for _, s := range []string{"row 0 0 0 0 1 7 7 7 1", "row 0 0 0 1 5 1 7 7 7 1", "row 0 0 0 3 1 1 1 1 7 7 7 1"} {
			refusesRow(t, c, s)
		}
	}
	for _, c := range []impl.Config{{}, config(0, nil, []int{0}, 0, 0), config(0, []impl.Win{win(5, 5)}, nil, 0, 0), config(1, []impl.Win{win(7, 7)}, []int{1}, 0, 0)} {
		refusesRow(t, c, "row 0 0 0 0 1 7 7 7 1")
	}
}

func TestRowReadRefusesWhatIsNearlyOne(t *testing.T) {
	c := cubeConfig()
	for _, s := range []string{
		"", " ", "row", "row ", "row 0", "rows 0 3 0 0 1 7 7 7 1", "ro 0 3 0 0 1 7 7 7 1", "Row 0 3 0 0 1 7 7 7 1", "pane 0 3 0 0 1 7 7 7 1", "pane 0 3 0 0 1 7 7 7", "0 3 0 0 1 7 7 7 1", "1 0 3 0 0 1 7 7 7 1",
		"row 0 3 0 0 1 7 7 7", "row 0 3 0 0 1 7 7 7 1 1", "row 0 3 0 0 1 7 7 7 1 x", "row 0 3 0 1 7 7 7 1", "row 0 3 0 0 1 7 7 7 1 ", " row 0 3 0 0 1 7 7 7 1", "row  0 3 0 0 1 7 7 7 1", "row 0 3 0 0 1 7  7 7 1",
		"row 0 3 0 0 1 7 7 7 1\n", "\nrow 0 3 0 0 1 7 7 7 1", "row 0 3 0 0 1 7 7 7 1\r", "row\t0 3 0 0 1 7 7 7 1", "row 0 3 0 0 1 7 7 7\t1", "row 0 3 0 0 1 7 7 7 1\x00", "\xffrow 0 3 0 0 1 7 7 7 1", "row 0 3 0 0 1 7 7 7 \xff",
		"row 00 3 0 0 1 7 7 7 1", "row 0 03 0 0 1 7 7 7 1", "row 0 3 00 0 1 7 7 7 1", "row 0 3 0 00 1 7 7 7 1", "row 0 3 0 0 01 7 7 7 1", "row 0 3 0 0 1 07 7 7 1", "row 0 3 0 0 1 7 7 07 1", "row 0 3 0 0 1 7 7 7 01",
		"row -0 3 0 0 1 7 7 7 1", "row 0 3 -0 0 1 7 7 7 1", "row 0 3 0 -0 1 7 7 7 1", "row 0 3 0 0 1 -0 0 0 1", "row 0 3 0 0 1 7 7 7 -1", "row +0 3 0 0 1 7 7 7 1", "row 0 3 0 0 1 7 7 7 +1", "row 0 +3 0 0 1 7 7 7 1",
		// A key with more or fewer numbers than it says, or than its mask keeps.
		"row 0 2 0 0 1 7 7 7 1", "row 0 2 0 1 1 7 7 7 1", "row 0 2 0 2 5 1 7 7 7 1", "row 0 2 0 0 5 1 7 7 7 1", "row 0 2 0 2 5 5 1 7 7 7 1", "row 0 2 0 1 5 5 1 7 7 7 1", "row 0 3 0 1 5 1 7 7 7 1", "row 0 3 0 0 5 1 7 7 7 1",
		"row 0 1 0 3 1 1 1 7 7 7 1", "row 0 1 0 2 1 1 1 7 7 7 1", "row 0 1 0 4 1 1 1 1 1 7 7 7 1", "row 0 1 0 3 1 1 1 1 1 7 7 7 1", "row 0 3 0 -1 1 7 7 7 1", "row 0 3 0 -4 1 7 7 7 1", "row 0 3 0 5 1 7 7 7 1", "row 0 3 0 4 1 7 7 7 1",
		"row 0 3 0 9223372036854775807 1 7 7 7 1", "row 0 3 0 9223372036854775800 1 7 7 7 1", "row 0 3 0 -9223372036854775808 1 7 7 7 1", "row 0 3 0 4294967296 1 7 7 7 1",
		"row 0 2 0 1 100 1 7 7 7 1", "row 0 2 0 1 -1 1 7 7 7 1", "row 0 3 0 0 0 0 0 0 1", "row 0 3 0 0 1 7 7 8 1", "row 0 3 0 0 1 7 7 7 0", "row 0 3 0 0 1 7 7 7 1001", "row 3 3 0 0 1 7 7 7 1", "row 0 4 0 0 1 7 7 7 1", "row 0 3 1 0 1 7 7 7 1",
		"row 0 3 200005 0 1 7 7 7 1", "row 0 3 -200005 0 1 7 7 7 1", "row 18446744073709551616 3 0 0 1 7 7 7 1", "row 0 3 18446744073709551616 0 1 7 7 7 1", "row 0 3 0 18446744073709551616 1 7 7 7 1",
		"row 0 3 0 0 1 7 7 7 18446744073709551617", "row 0 3 0 0 18446744073709551617 7 7 7 1", "row 0 3 0 0 1 7 7 7 9223372036854775808", "row -9223372036854775809 3 0 0 1 7 7 7 1",
		"row 0 3 0 0 1 7 7 seven 1", "row 0 3 0 0 1 7 7 7.0 1", "row 0 3 0 0 1 7 7 0x7 1", "row 0 3 0 0 1 7 7 7 1_0", "row 0 3 0 0 1 7 7 ７ 1", "row,0,3,0,0,1,7,7,7,1", "row - 3 0 0 1 7 7 7 1",
		"row " + strings.Repeat("0 ", 100000), strings.Repeat(" ", 100000), "row 0 3 0 0 1 7 7 7 " + strings.Repeat("9", 100000), "row 0 3 0 0 1 7 7 7 1" + strings.Repeat(" 1", 100000),
	} {
		refusesRow(t, c, s)
	}
}

func TestRowReadTakesOnlyTexts(t *testing.T) {
	c := cubeConfig()
	_, texts := rowsAndTexts()
	taken := 0
	for _, text := range texts {
		for _, near := range nearTexts(text, "01259 -+x\n") {
			want, ok := readRowByForm(c, near)
			if !ok {
				refusesRow(t, c, near)
				continue
			}
			taken++
			if got, ok := impl.RowRead(c, near); !ok || !sameRow(got, want) {
				t.Errorf("RowRead(%q) = %v, %v; want %v", near, got, ok, want)
			}
		}
	}
	if taken < 50 {
		t.Errorf("only %d of the near texts are those of rows", taken)
	}
}

func TestStateText(t *testing.T) {
	type ps = []impl.Pane
	type rs = []impl.Row
	c := config(2, []impl.Win{win(10, 5), win(5, 5)}, []int{3, 1, 0}, 5, 10)
	for body, s := range map[string]impl.State{
		"part 0 -200000\ndrops 0\nbad 0\n":                                           impl.Fresh(c, 1),
		"part 0 -200000\npart 0 -200000\npart 0 -200000\ndrops 0\nbad 0\n":           impl.Fresh(c, 3),
		"part 24 100000\npart 0 -200000\npart 7 -101000\ndrops 100000\nbad 100000\n": states([]int{24, 0, 7}, []int{latest, noMark, leastMark}, nil, nil, mostTallied, mostTallied),
		"part 1 -5\ndrops 2\nbad 0\nrow 0 0 10 2 7 8 1 3 3 3 2\n":                    state(1, -5, nil, rs{row(0, 0, 10, one(3), 2, 7, 8)}, 2, 0),
		"part 1 -5\ndrops 0\nbad 3\npane 0 2 -10 0 2 3 -2 5\n":                       state(1, -5, ps{pane(0, 2, -10, agg(2, 3, -2, 5))}, nil, 0, 3),
		"part 2 9\npart 3 -1\ndrops 1\nbad 4\npane 0 0 0 2 1 2 1 40 40 40\npane 0 1 -5 1 1 1 -9 -9 -9\npane 1 2 0 0 1 40 40 40\nrow 0 0 0 2 1 2 1 40 40 40 1\nrow 0 2 -5 0 3 8 -2 5 1000\n": states([]int{2, 3}, []int{9, -1},
			ps{pane(0, 0, 0, one(40), 1, 2), pane(0, 1, -5, one(-9), 1), pane(1, 2, 0, one(40))}, rs{row(0, 0, 0, one(40), 1, 1, 2), row(0, 2, -5, agg(3, 8, -2, 5), 1000)}, 1, 4),
	} {
		if got, want := impl.StateText(c, s), sealedByHand(body); got != want {
			t.Errorf("StateText(%v) = %q; want %q", s, got, want)
		}
		if got, ok := impl.StateRead(c, sealedByHand(body)); !ok || !sameState(got, s) {
			t.Errorf("StateRead of %q = %v, %v; want %v", body, got, ok, s)
		}
	}
}

func TestStatesAtTheirLimitsAreReadAsTheyWere(t *testing.T) {
	for _, s := range acceptedStates() {
		keepsState(t, cubeConfig(), s)
	}
	for _, c := range acceptedConfigs() {
		for parts := 1; parts <= impl.MaxParts; parts++ {
			keepsState(t, c, impl.Fresh(c, parts))
		}
	}
}

func TestStatesOfSoManyRecordsAreReadAsTheyWere(t *testing.T) {
	kept := 0
	for i, c := range operatorConfigs() {
		for seed, counts := range [][]int{{24}, {9, 4}, {24, 24, 24}} {
			logs := mixedLogs(c, i+7*seed, counts...)
			for n := 0; n <= countRecs(logs); n++ {
				s, ok := impl.Fold(c, logs, n)
				if !ok {
					t.Fatalf("Fold(%v, %d) = false", c, n)
				}
				if len(sealedByHand(bodyByHand(s))) > mostSaved {
					if got := impl.StateText(c, s); got != "" {
						t.Fatalf("StateText behind %d records has %d bytes", n, len(got))
					}
					continue
				}
				keepsState(t, c, s)
				kept++
			}
		}
	}
	if kept < 500 {
		t.Errorf("only %d of the states have a text", kept)
	}
}

// savedConfig has so many cells that a state of it may be as long as one likes.
func savedConfig() impl.Config {
	return config(3, []impl.Win{win(1, 1)}, []int{7}, 0, 0)
}

// stateOfBytes tells a state whose text has so many bytes: lines of one digit a number, as many as fit, and then
// more digits where there is room left. The sum is taken to have 10 digits; till it has, another value is tried.
func stateOfBytes(t *testing.T, bytes int) impl.State {
	t.Helper()
	s := state(24, latest, nil, nil, 1, 1)
	left := bytes - len("sum 1234567890\n") - len(bodyByHand(s))
	for i := 0; left > 100; i++ {
		s.Panes = append(s.Panes, pane(0, 0, i, one(1), 7, 7, 7))
		s.Rows = append(s.Rows, row(0, 0, i, one(1), 1+i%impl.MaxCount, 7, 7, 7))
		left -= len(paneByHand("pane", s.Panes[i])) + len(rowByHand(s.Rows[i])) + 2
	}
	s.Drops, left = ipow(10, min(left, 5)), left-min(left, 5)
	for i := range s.Panes {
		digits := min(left/3, 6)
		s.Panes[i].A, left = one(ipow(10, digits)), left-3*digits
	}
	s.Bad = ipow(10, left)
	for v := range 10 {
		s.Rows[0].A = one(v)
		if len(sealedByHand(bodyByHand(s))) == bytes {
			return s
		}
	}
	t.Fatalf("no state found whose text has %d bytes", bytes)
	return impl.State{}
}

func ipow(n, times int) int {
	all := 1
	for range times {
		all *= n
	}
	return all
}

func TestStatesOfMaxSavedBytes(t *testing.T) {
	c := savedConfig()
	for _, bytes := range []int{mostSaved - 1, mostSaved} {
		keepsState(t, c, stateOfBytes(t, bytes))
	}
	s := stateOfBytes(t, mostSaved)
	for turned := range flips(impl.StateText(c, s), 4999) {
		refusesState(t, c, turned)
	}
	for _, bytes := range []int{mostSaved + 1, mostSaved + 2, 2 * mostSaved} {
		s := stateOfBytes(t, bytes)
		if got := impl.StateText(c, s); got != "" || !impl.StateOk(c, s) {
			t.Errorf("StateText of %d bytes has %d", bytes, len(got))
		}
		refusesState(t, c, sealedByHand(bodyByHand(s)))
	}
}

func TestOneBitTurnedIsTold(t *testing.T) {
	for _, s := range acceptedStates()[:8] {
		for turned := range flips(sealedByHand(bodyByHand(s)), 1) {
			refusesState(t, cubeConfig(), turned)
		}
	}
	for i, c := range operatorConfigs()[:8] {
		s, _ := impl.Fold(c, mixedLogs(c, i+1, 9, 8), 10)
		for turned := range flips(sealedByHand(bodyByHand(s)), 5) {
			refusesState(t, c, turned)
		}
	}
}

func TestStateTextRefuses(t *testing.T) {
	for _, s := range refusedStates() {
		if got := impl.StateText(cubeConfig(), s); got != "" {
			t.Errorf("StateText(%v) = %q; want an empty text", s, got)
		}
	}
	for _, c := range refusedConfigs() {
		for _, s := range []impl.State{impl.Fresh(c, 1), impl.Fresh(c, 3), soundState(), state(1, 5, nil, []impl.Row{told(0, one(7), 1)}, 0, 0)} {
			if got := impl.StateText(c, s); got != "" {
				t.Errorf("StateText(%v, %v) = %q; want an empty text", c, s, got)
			}
			refusesState(t, c, sealedByHand(bodyByHand(s)))
		}
	}
}

func TestStateReadRefusesWhatIsNotStateOk(t *testing.T) {
	for _, s := range refusedStates() {
		if len(s.Offs) == len(s.Marks) {
			refusesState(t, cubeConfig(), sealedByHand(bodyByHand(s)))
		}
	}
	text := impl.StateText(cubeConfig(), soundState())
	// What is sound with one Config is not with another.
	for _, c := range []impl.Config{{}, plainConfig(0, 0), config(3, []impl.Win{win(10, 5), win(5, 5), win(30, 15)}, []int{5, 7, 4}, 3, 4)} {
		refusesState(t, c, text)
	}
}

// Each of these bodies is nearly the one of a state, and bears the sum of itself.
func TestStateReadRefusesWhatIsNearlyOne(t *testing.T) {
	c := config(1, []impl.Win{win(10, 5)}, []int{1, 0}, 5, 10)
	const part, drops, bad = "part 1 -5\n", "drops 2\n", "bad 3\n"
	const pane1, pane2, row1, row2 = "pane 0 0 0 1 7 1 3 3 3\n", "pane 0 1 5 0 2 3 -2 5\n", "row 0 0 -5 1 7 1 3 3 3 2\n", "row 0 1 10 0 1 0 0 0 1\n"
	const head = part + drops + bad
	for _, body := range []string{head, part + head, part + part + head, head + pane1 + pane2, head + row1 + row2, head + pane1 + pane2 + row1 + row2} {
		if want, ok := readBodyByForm(c, body); !ok || bodyByHand(want) != body {
			t.Fatalf("the test takes %q for none", body)
		} else if got, ok := impl.StateRead(c, sealedByHand(body)); !ok || !sameState(got, want) {
			t.Errorf("StateRead of %q = %v, %v; want %v", body, got, ok, want)
		}
		refusesState(t, c, body)
		refusesState(t, c, sealedByHand(strings.TrimSuffix(body, "\n")))
		refusesState(t, c, sealedByHand("\n"+body))
		refusesState(t, c, sealedByHand(body+"\n"))
		refusesState(t, c, sealedByHand(sealedByHand(body)))
		refusesState(t, c, sealedByHand(body)+"\n")
		refusesState(t, c, sealedByHand(body)+sealedByHand(body))
		refusesState(t, c, body+"sum "+strconv.Itoa(crcByHand(body+"\n"))+"\n")
		refusesState(t, c, body+"sum 0"+strconv.Itoa(crcByHand(body))+"\n")
		refusesState(t, c, body+"sum "+strconv.Itoa(crcByHand(body)))
		refusesState(t, c, sealedByHand(strings.ReplaceAll(body, "\n", "\r\n")))
		refusesState(t, c, sealedByHand(strings.ReplaceAll(body, "\n", "\n\n")))
		refusesState(t, c, sealedByHand(strings.ReplaceAll(body, "\n", " \n")))
		refusesState(t, c, sealedByHand(strings.ReplaceAll(body, " ", "  ")))
	}
	for _, body := range []string{
		"", "\n", "x\n", part, drops, bad, drops + bad, part + bad, part + drops, part + drops + pane1, part + bad + pane1, pane1, row1, drops + bad + pane1,
		part + part + part + head, part + bad + drops, drops + part + bad, drops + bad + part, bad + drops + part, part + drops + part + bad, head + part, head + drops, head + bad, head + head,
		part + drops + drops + bad, part + drops + bad + bad, part + drops + "drops 3\n" + bad, part + drops + "bad 4\n" + bad, part + pane1 + drops + bad, part + drops + pane1 + bad, pane1 + head, row1 + head,
		head + pane2 + pane1, head + pane1 + pane1, head + row2 + row1, head + row1 + row1, head + row1 + pane1, head + pane1 + row1 + pane2, head + row1 + pane1 + row2,
		head + pane1 + drops, head + pane1 + part, head + row1 + bad, head + "\n" + pane1, head + pane1 + "\n" + row1, head + "x\n", head + "pane\n", head + "row\n", head + "sum 0\n", head + "e 5 1 3\n", head + " \n", head + pane1 + "x\n" + row1,
		head + "pane 0 0 -5 1 7 1 3 3 3 2\n", head + "row 0 0 0 1 7 1 3 3 3\n", head + "Pane 0 0 0 1 7 1 3 3 3\n", head + "panes 0 0 0 1 7 1 3 3 3\n", head + "pane 0 0 0 1 7 1 3 3\n", head + "pane 0 0 0 0 1 3 3 3\n", head + "pane 0 1 0 1 7 1 3 3 3\n",
		head + "pane 0 0 0 2 7 1 3 3 3\n", head + "pane 0 0 0 -1 7 1 3 3 3\n", head + "pane 0 0 0 9223372036854775807 7 1 3 3 3\n", head + "pane 0 0 0 1 7 0 0 0 0\n", head + "pane 0 0 1 1 7 1 3 3 3\n", head + "pane 0 0 00 1 7 1 3 3 3\n",
		head + "row 0 0 0 1 7 1 3 3 3 0\n", head + "row 0 0 0 1 7 1 3 3 3 1001\n", head + "row 0 0 0 1 7 1 3 3 3 1 1\n", head + "row 0 0 0 1 7 1 3 3 3 18446744073709551617\n",
		"part 1\n" + drops + bad, "part 1 -5 0\n" + drops + bad, "part\n" + drops + bad, "part  1 -5\n" + drops + bad, "part 1  -5\n" + drops + bad, "part 1 -5 \n" + drops + bad, " part 1 -5\n" + drops + bad, "part 01 -5\n" + drops + bad,
		"part 1 -05\n" + drops + bad, "part -0 -5\n" + drops + bad, "part 1 -0\n" + drops + bad, "part +1 -5\n" + drops + bad, "part 25 -5\n" + drops + bad, "part -1 -5\n" + drops + bad, "part 1 100001\n" + drops + bad, "part 1 -101001\n" + drops + bad,
		"part 1 -199999\n" + drops + bad, "part 1 x\n" + drops + bad, "part 18446744073709551617 -5\n" + drops + bad, "Part 1 -5\n" + drops + bad, "parts 1 -5\n" + drops + bad, "1 -5\n" + drops + bad,
		part + "drops\n" + bad, part + "drops \n" + bad, part + "drops 2 2\n" + bad, part + "drops 02\n" + bad, part + "drops -0\n" + bad, part + "drops -1\n" + bad, part + "drops 100001\n" + bad, part + "drop 2\n" + bad, part + "drops x\n" + bad, part + "drops 18446744073709551617\n" + bad,
		part + drops + "bad\n", part + drops + "bad 3 3\n", part + drops + "bad 03\n", part + drops + "bad -0\n", part + drops + "bad -1\n", part + drops + "bad 100001\n", part + drops + "bads 3\n", part + drops + "bad x\n", part + drops + "bad 3\x00\n",
		strings.Repeat(part, 5000) + drops + bad, head + strings.Repeat("\n", 50000), strings.Repeat(" ", 50000), head + "pane" + strings.Repeat(" 0", 20000) + "\n", head + strings.Repeat(pane1, 2000), part + strings.Repeat(drops, 5000) + bad, allBytes(),
	} {
		refusesState(t, c, sealedByHand(body))
	}
	for _, s := range append(ordinaryTexts(), impl.RowText(told(0, one(3), 1))) {
		refusesState(t, c, s)
	}
}

// One byte of the body may be another one, with the sum of what it is then: what is read is just what the form says.
func TestStateReadTakesOnlyTexts(t *testing.T) {
	c := config(2, []impl.Win{win(10, 5), win(5, 5)}, []int{3, 1, 0}, 5, 10)
	body := "part 2 9\npart 0 -200000\ndrops 10\nbad 4\npane 0 0 0 2 1 2 1 40 40 40\npane 0 2 -5 0 2 3 -2 5\nrow 0 1 10 1 9 1 0 0 0 1\nrow 1 2 -5 0 3 8 -2 5 1000\n"
	taken := 0
	for _, near := range append(nearTexts(body, "01259 -+prx\n"), body) {
		want, ok := readBodyByForm(c, near)
		if !ok {
			refusesState(t, c, sealedByHand(near))
			continue
		}
		taken++
		if got, ok := impl.StateRead(c, sealedByHand(near)); !ok || !sameState(got, want) {
			t.Errorf("StateRead of %q = %v, %v; want %v", near, got, ok, want)
		}
	}
	if taken < 50 {
		t.Errorf("only %d of the near texts are those of states", taken)
	}
}

// Each line of a state's text left out, told twice, or told in the place of the next one.
func TestStateReadTellsEachLineThatIsOutOfPlace(t *testing.T) {
	c := cubeConfig()
	s := soundState()
	lines := strings.SplitAfter(bodyByHand(s), "\n")
	lines = lines[:len(lines)-1]
	for i := range lines {
		for _, changed := range [][]string{slices.Delete(slices.Clone(lines), i, i+1), slices.Insert(slices.Clone(lines), i, lines[i]), slices.Concat(lines[:i], lines[min(i+1, len(lines)-1):], lines[i:i+1])} {
			body := strings.Join(changed, "")
			want, ok := readBodyByForm(c, body)
			if !ok {
				refusesState(t, c, sealedByHand(body))
			} else if got, ok := impl.StateRead(c, sealedByHand(body)); !ok || !sameState(got, want) {
				t.Errorf("StateRead of %q = %v, %v; want %v", body, got, ok, want)
			}
		}
	}
}

func TestTextsLeaveTheirArguments(t *testing.T) {
	c := cubeConfig()
	s, behind := roomyState()
	before := fmt.Sprint(behind)
	if got := impl.StateText(c, s); got != sealedByHand(bodyByHand(soundState())) {
		t.Errorf("StateText reads what lies behind a list: %q", got)
	}
	for i, r := range s.Rows {
		if got := impl.RowText(r); got != rowByHand(soundState().Rows[i]) {
			t.Errorf("RowText reads what lies behind a key: %q", got)
		}
	}
	if !sameState(s, soundState()) || fmt.Sprint(behind) != before {
		t.Errorf("a text is written into its argument: %v", s)
	}
	if !reflect.DeepEqual(c, cubeConfig()) {
		t.Errorf("a text is written into its config: %v", c)
	}
}

func TestStatesReadAreNewMemory(t *testing.T) {
	c := cubeConfig()
	text := sealedByHand(bodyByHand(soundState()))
	readState := func() impl.State {
		got, ok := impl.StateRead(c, text)
		if !ok {
			t.Fatalf("StateRead(%q) = false", text)
		}
		return got
	}
	scribble(readState())
	got := readState()
	if !sameState(got, soundState()) {
		t.Fatalf("StateRead tells what was written into an earlier answer: %v", got)
	}
	lists := append(slices.Clone(got.Panes), impl.Pane{Key: got.Offs}, impl.Pane{Key: got.Marks})
	for _, r := range got.Rows {
		lists = append(lists, paneOf(r))
	}
	keysApart(t, lists)
}

func TestRowsReadAreNewMemory(t *testing.T) {
	c := cubeConfig()
	want := row(0, 1, 5, one(7), 3, 1, 2, 3)
	for range 2 {
		got, ok := impl.RowRead(c, "row 0 1 5 3 1 2 3 1 7 7 7 3")
		if !ok || !sameRow(got, want) {
			t.Fatalf("RowRead = %v, %v", got, ok)
		}
		scribbleNumbers(got.Key)
	}
}
