package tests

import (
	"fmt"
	"maps"
	"math"
	"math/big"
	"slices"
	"strings"
	"sync"
	"testing"

	"loop.example/g00552/impl"
)

const mostFiles = impl.MaxFiles
const mostFile = impl.MaxFile

// mostName is how many bytes a name has at most.
const mostName = 20

func file(name, safe, now string) impl.File {
	return impl.File{Name: name, Safe: safe, Now: now}
}

func disk(files ...impl.File) impl.Disk {
	return impl.Disk{Files: files}
}

// diskOf tells a disk of files with these names, each with another Safe and another Now.
func diskOf(names ...string) impl.Disk {
	d := disk()
	for i, name := range names {
		d.Files = append(d.Files, file(name, fmt.Sprint("safe", i), fmt.Sprint("now", i)))
	}
	return d
}

func sameDisk(a, b impl.Disk) bool {
	return slices.Equal(a.Files, b.Files)
}

func copyDisk(d impl.Disk) impl.Disk {
	return disk(slices.Clone(d.Files)...)
}

// brief tells a disk without its long texts.
func brief(d impl.Disk) string {
	list := []string{}
	for _, f := range d.Files {
		list = append(list, fmt.Sprintf("%.40q: %.40q (%d), %.40q (%d)", f.Name, f.Safe, len(f.Safe), f.Now, len(f.Now)))
	}
	return strings.Join(list, "; ")
}

// A shelf is a disk by hand: its files by their names.
type shelf map[string]impl.File

func shelfOf(d impl.Disk) shelf {
	s := shelf{}
	for _, f := range d.Files {
		s[f.Name] = f
	}
	return s
}

func (s shelf) disk() impl.Disk {
	d := disk()
	for _, name := range slices.Sorted(maps.Keys(s)) {
		d.Files = append(d.Files, s[name])
	}
	return d
}

// put tells whether a file may have this text now, and gives it to it.
func (s shelf) put(name, text string) bool {
	f, there := s[name]
	if len(name) == 0 || len(name) > 20 || len(text) > 200000 || !there && len(s) == 4 {
		return false
	}
	s[name] = file(name, f.Safe, text)
	return true
}

func (s shelf) sync(name string) {
	if f, there := s[name]; there {
		s[name] = file(name, f.Now, f.Now)
	}
}

func (s shelf) crash(cuts []int) {
	for i, name := range slices.Sorted(maps.Keys(s)) {
		left := survivesByHand(s[name], append(slices.Clone(cuts), 0, 0, 0, 0)[i])
		s[name] = file(name, left, left)
	}
}

// moduloByHand takes the library's, whose remainder is never below 0.
func moduloByHand(n, m int) int {
	return int(new(big.Int).Mod(big.NewInt(int64(n)), big.NewInt(int64(m))).Int64())
}

func survivesByHand(f impl.File, cut int) string {
	safe := len(f.Safe)
	if f.Safe == f.Now {
		return f.Safe
	}
	if safe > len(f.Now) || f.Now[:safe] != f.Safe {
		return []string{f.Safe, f.Now}[moduloByHand(cut, 2)]
	}
	return f.Now[:safe+moduloByHand(cut, len(f.Now)-safe+1)]
}

// manyCuts holds cuts on both sides of 0, and those at the ends of the 64 bits.
func manyCuts() []int {
	cuts := farNumbers()
	for cut := -25; cut <= 25; cut++ {
		cuts = append(cuts, cut)
	}
	return append(cuts, mostFile, mostFile+1, -mostFile, -mostFile-1, math.MinInt+2, math.MaxInt-2)
}

// shortTexts tells all texts of at most so many signs, of two different ones.
func shortTexts(length int) []string {
	texts := []string{""}
	for from := 0; len(texts[from]) < length; from++ {
		texts = append(texts, texts[from]+"a", texts[from]+"b")
	}
	return texts
}

// acceptedDisks holds ordinary disks and those at a limit, with names and texts of any bytes.
func acceptedDisks() []impl.Disk {
	long, name := strings.Repeat("x", mostFile), strings.Repeat("n", mostName)
	return []impl.Disk{
		{}, disk(), diskOf("a"), diskOf(name), diskOf("ckpt", "sink"), diskOf("a", "ab"), diskOf("a", "ab", "abc", "b"), diskOf("A", "Z", "a", "z"), diskOf("10", "2", "9"),
		diskOf("\x00"), diskOf("\xff"), diskOf("\n", " ", "\x7f", "\x80"), diskOf("\x00", "\x00\x00", "\x00\x01", "\x01"), diskOf("\xfe\xff", "\xff", "\xff\x00", "\xff\xff"), diskOf("a", "a\x00", "a ", "aa"), diskOf("z", "é", "€", "😀"),
		diskOf(allBytes()[:20], allBytes()[20:40], allBytes()[200:220], allBytes()[236:]), diskOf(name[1:], name), diskOf("m", name[:19]+"a", name, "o"), diskOf(strings.Repeat("\x00", 19), strings.Repeat("\x00", 20), strings.Repeat("\xff", 19), strings.Repeat("\xff", 20)),
		disk(file("a", "", "")), disk(file("a", "", "x")), disk(file("a", "x", "")), disk(file("a", allBytes(), "\xff"), file("b", "", allBytes())),
		disk(file("a", long, "")), disk(file("a", "", long)), disk(file("a", long, long), file("b", long, long), file("c", long, long), file(name, long, long)),
		disk(file("a", strings.Repeat("\xff", mostFile), strings.Repeat("é", mostFile/2))),
	}
}

// refusedDisks holds those with a single limit passed, or with names that do not rise.
func refusedDisks() []impl.Disk {
	long, name := strings.Repeat("x", mostFile+1), strings.Repeat("n", mostName+1)
	return []impl.Disk{
		diskOf("a", "b", "c", "d", "e"), diskOf("a", "b", "c", "d", "e", "f"), {Files: make([]impl.File, 5)}, {Files: make([]impl.File, 1000)},
		diskOf("b", "a"), diskOf("ab", "a"), diskOf("a", "abc", "ab"), diskOf("a", "c", "b"), diskOf("b", "a", "c"), diskOf("a", "b", "d", "c"), diskOf("a", "A"), diskOf("2", "10"), diskOf("\x80", "\x7f"), diskOf("\xff\x00", "\xff"), diskOf("é", "z"), diskOf("\x00\x00", "\x00"),
		diskOf("a", "a"), diskOf("a", "b", "b"), diskOf("a", "b", "a"), diskOf("a", "b", "c", "c"), diskOf("\x00", "\x00"), disk(file("a", "x", "y"), file("a", "x", "y")),
		diskOf(""), diskOf("", "a"), diskOf("", ""), diskOf("a", ""), {Files: make([]impl.File, 1)},
		diskOf(name), diskOf("a", name), diskOf(name, "o"), diskOf("a", "b", "c", name), diskOf(strings.Repeat("\x00", 21)), diskOf(strings.Repeat("é", 10) + "x"), diskOf(strings.Repeat("n", 100000)),
		disk(file("a", long, "")), disk(file("a", "", long)), disk(file("a", long, long)), disk(file("a", "x", "y"), file("b", long, "y")), disk(file("a", "x", "y"), file("b", "x", "y"), file("c", "x", "y"), file("d", "x", long)), disk(file("a", "", long), file("b", "x", "y")),
		disk(file("a", "", strings.Repeat("é", mostFile/2)+"x")), disk(file("a", strings.Repeat("x", 10*mostFile), "")),
	}
}

// refusedNames holds such that no file may have.
func refusedNames() []string {
	return []string{"", strings.Repeat("n", mostName+1), strings.Repeat("\x00", mostName+1), strings.Repeat("é", 10) + "x", strings.Repeat("n", 100000)}
}

func putOn(t *testing.T, d impl.Disk, name, s string) impl.Disk {
	t.Helper()
	got, ok := impl.DiskPut(d, name, s)
	if !ok {
		t.Fatalf("DiskPut(%s; %q, %.80q) = false", brief(d), name, s)
	}
	return got
}

func addTo(t *testing.T, d impl.Disk, name, s string) impl.Disk {
	t.Helper()
	got, ok := impl.DiskAdd(d, name, s)
	if !ok {
		t.Fatalf("DiskAdd(%s; %q, %.80q) = false", brief(d), name, s)
	}
	return got
}

func refusesPut(t *testing.T, d impl.Disk, name, s string) {
	t.Helper()
	if got, ok := impl.DiskPut(d, name, s); ok || len(got.Files) > 0 {
		t.Errorf("DiskPut(%s; %.40q, %.40q) = %s, %v; want nothing, false", brief(d), name, s, brief(got), ok)
	}
}

func refusesAdd(t *testing.T, d impl.Disk, name, s string) {
	t.Helper()
	if got, ok := impl.DiskAdd(d, name, s); ok || len(got.Files) > 0 {
		t.Errorf("DiskAdd(%s; %.40q, %.40q) = %s, %v; want nothing, false", brief(d), name, s, brief(got), ok)
	}
}

// isDisk asks for all of a disk, and for what is read of it.
func isDisk(t *testing.T, got, want impl.Disk) {
	t.Helper()
	if !sameDisk(got, want) {
		t.Fatalf("the disk is %s; want %s", brief(got), brief(want))
	}
	if !impl.DiskOk(got) {
		t.Fatalf("DiskOk(%s) = false", brief(got))
	}
	for _, f := range want.Files {
		if now := impl.DiskRead(got, f.Name); now != f.Now {
			t.Fatalf("DiskRead(%s; %q) = %.80q; want %.80q", brief(got), f.Name, now, f.Now)
		}
	}
}

func TestLimitsOfTheDisk(t *testing.T) {
	if impl.MaxFiles != 4 || impl.MaxFile != 200000 {
		t.Fatal(impl.MaxFiles, impl.MaxFile)
	}
}

func TestDiskOk(t *testing.T) {
	for _, d := range acceptedDisks() {
		if !impl.DiskOk(d) {
			t.Errorf("DiskOk(%s) = false", brief(d))
		}
	}
	for _, d := range refusedDisks() {
		if impl.DiskOk(d) {
			t.Errorf("DiskOk(%s) = true", brief(d))
		}
	}
}

func TestNamesRiseByteByByte(t *testing.T) {
	names := append(shortTexts(4)[1:], "A", "a\x00", "a\xff", "\x00", "\xff", "é", "10", "9", strings.Repeat("a", mostName), strings.Repeat("b", mostName))
	for _, a := range names {
		for _, b := range names {
			if got := impl.DiskOk(diskOf(a, b)); got != (slices.Compare([]byte(a), []byte(b)) < 0) {
				t.Errorf("DiskOk of files %q and %q = %v", a, b, got)
			}
		}
	}
}

func TestDiskPut(t *testing.T) {
	d := putOn(t, impl.Disk{}, "m", "first")
	isDisk(t, d, disk(file("m", "", "first")))
	d = putOn(t, d, "m", "second")
	isDisk(t, d, disk(file("m", "", "second")))
	d = putOn(t, impl.DiskSync(d, "m"), "m", "third")
	isDisk(t, d, disk(file("m", "second", "third")))
	d = putOn(t, d, "z", "last")
	isDisk(t, d, disk(file("m", "second", "third"), file("z", "", "last")))
	d = putOn(t, d, "a", "ahead")
	isDisk(t, d, disk(file("a", "", "ahead"), file("m", "second", "third"), file("z", "", "last")))
	d = putOn(t, d, "p", "between")
	isDisk(t, d, disk(file("a", "", "ahead"), file("m", "second", "third"), file("p", "", "between"), file("z", "", "last")))
	d = putOn(t, d, "z", "")
	isDisk(t, d, disk(file("a", "", "ahead"), file("m", "second", "third"), file("p", "", "between"), file("z", "", "")))
	d = putOn(t, d, "a", allBytes())
	isDisk(t, d, disk(file("a", "", allBytes()), file("m", "second", "third"), file("p", "", "between"), file("z", "", "")))
}

func TestDiskAdd(t *testing.T) {
	d := addTo(t, impl.Disk{}, "m", "one")
	isDisk(t, d, disk(file("m", "", "one")))
	d = addTo(t, d, "m", ", two")
	isDisk(t, d, disk(file("m", "", "one, two")))
	d = addTo(t, impl.DiskSync(d, "m"), "m", ", three")
	isDisk(t, d, disk(file("m", "one, two", "one, two, three")))
	d = addTo(t, d, "m", "")
	isDisk(t, d, disk(file("m", "one, two", "one, two, three")))
	d = addTo(t, d, "n", "")
	isDisk(t, d, disk(file("m", "one, two", "one, two, three"), file("n", "", "")))
	d = addTo(t, addTo(t, d, "a", "\x00\xff"), "a", "\x00")
	isDisk(t, d, disk(file("a", "", "\x00\xff\x00"), file("m", "one, two", "one, two, three"), file("n", "", "")))
	d = addTo(t, putOn(t, d, "m", "anew"), "m", "!")
	isDisk(t, d, disk(file("a", "", "\x00\xff\x00"), file("m", "one, two", "anew!"), file("n", "", "")))
	// What is safe is not what is written behind.
	d = addTo(t, disk(file("a", "safe", "")), "a", "x")
	isDisk(t, d, disk(file("a", "safe", "x")))
}

func TestDiskRead(t *testing.T) {
	d := disk(file("a", "1", "2"), file("ab", "3", "4"), file("b", "5", ""), file("\xff", "", allBytes()))
	for name, want := range map[string]string{
		"a": "2", "ab": "4", "b": "", "\xff": allBytes(),
		"": "", "abc": "", "aa": "", "c": "", "A": "", "a\x00": "", "a ": "", " a": "", "\x00": "", "\xff\xff": "", strings.Repeat("a", 21): "", strings.Repeat("a", 100000): "",
	} {
		if got := impl.DiskRead(d, name); got != want {
			t.Errorf("DiskRead(%.40q) = %q; want %q", name, got, want)
		}
	}
	for _, name := range append(refusedNames(), "a", "ckpt") {
		if got := impl.DiskRead(impl.Disk{}, name); got != "" {
			t.Errorf("DiskRead of no file at %.40q = %q", name, got)
		}
	}
}

func TestDiskSync(t *testing.T) {
	d := disk(file("a", "1", "2"), file("ab", "", "34"), file("b", "5", ""), file("c", "66", "66"))
	for name, want := range map[string]impl.Disk{
		"a":  disk(file("a", "2", "2"), file("ab", "", "34"), file("b", "5", ""), file("c", "66", "66")),
		"ab": disk(file("a", "1", "2"), file("ab", "34", "34"), file("b", "5", ""), file("c", "66", "66")),
		"b":  disk(file("a", "1", "2"), file("ab", "", "34"), file("b", "", ""), file("c", "66", "66")),
		"c":  d,
	} {
		isDisk(t, impl.DiskSync(d, name), want)
	}
	for _, name := range append(refusedNames(), "A", "aa", "abc", "a\x00", "\x00", "d") {
		isDisk(t, impl.DiskSync(d, name), d)
		isDisk(t, impl.DiskSync(impl.Disk{}, name), impl.Disk{})
	}
}

// A file that is not there comes at its place among the names, also where one begins the other.
func TestNewFilesComeAtTheirPlace(t *testing.T) {
	names := append(shortTexts(2)[1:], "\x00", "\xff", "a\x00", "\x7f", "\x80", strings.Repeat("a", 19), strings.Repeat("a", 20))
	for seed := range 100 {
		put, added, wantPut, wantAdded := impl.Disk{}, impl.Disk{}, shelf{}, shelf{}
		for i, n := range mixed(mostFiles, seed) {
			name, text := names[(n+bound)%len(names)], fmt.Sprint(i)
			put, added = putOn(t, put, name, text), addTo(t, added, name, text)
			wantPut.put(name, text)
			wantAdded.put(name, wantAdded[name].Now+text)
			isDisk(t, put, wantPut.disk())
			isDisk(t, added, wantAdded.disk())
		}
	}
}

func TestNamesOfAnyBytes(t *testing.T) {
	for b := range 256 {
		for _, length := range []int{1, 2, mostName - 1, mostName} {
			name := strings.Repeat(string([]byte{byte(b)}), length)
			d := addTo(t, putOn(t, impl.Disk{}, name, "x"), name, "y")
			isDisk(t, d, disk(file(name, "", "xy")))
			isDisk(t, impl.DiskSync(d, name), disk(file(name, "xy", "xy")))
			isDisk(t, impl.DiskCrash(d, []int{1}), disk(file(name, "x", "x")))
		}
	}
}

func TestWritesAreRefused(t *testing.T) {
	long := strings.Repeat("x", mostFile)
	full := diskOf("a", "ab", "b", "c")
	for _, d := range []impl.Disk{{}, diskOf("a"), diskOf("a", "n"), full} {
		for _, name := range refusedNames() {
			refusesPut(t, d, name, "x")
			refusesPut(t, d, name, "")
			refusesAdd(t, d, name, "x")
			refusesAdd(t, d, name, "")
		}
		for _, s := range []string{long + "x", long + long, strings.Repeat("é", mostFile/2) + "x"} {
			for _, name := range []string{"a", "b", "z"} {
				refusesPut(t, d, name, s)
				refusesAdd(t, d, name, s)
			}
		}
	}
	for _, name := range []string{"\x00", "A", "aa", "a\x00", "abc", "bb", "d", "\xff", strings.Repeat("c", mostName)} {
		refusesPut(t, full, name, "x")
		refusesPut(t, full, name, "")
		refusesAdd(t, full, name, "x")
		refusesAdd(t, full, name, "")
	}
	for i, f := range full.Files {
		want := copyDisk(full)
		want.Files[i].Now = "y"
		isDisk(t, putOn(t, full, f.Name, "y"), want)
		want.Files[i].Now = f.Now + "y"
		isDisk(t, addTo(t, full, f.Name, "y"), want)
	}
}

// A text may have just MaxFile bytes, whether it is put or comes piece by piece.
func TestTextsOfMaxFileBytes(t *testing.T) {
	long := strings.Repeat("0123456789", mostFile/10)
	isDisk(t, putOn(t, impl.Disk{}, "a", long), disk(file("a", "", long)))
	isDisk(t, addTo(t, impl.Disk{}, "a", long), disk(file("a", "", long)))
	isDisk(t, putOn(t, disk(file("a", long, long)), "a", long), disk(file("a", long, long)))
	isDisk(t, addTo(t, disk(file("a", long, "")), "a", long), disk(file("a", long, long)))
	isDisk(t, addTo(t, disk(file("a", "", long)), "a", ""), disk(file("a", "", long)))
	for _, behind := range []int{0, 1, 2, 10, mostFile / 2, mostFile - 1, mostFile} {
		d := disk(file("a", long, "x"), file("b", "safe", long[:mostFile-behind]))
		isDisk(t, addTo(t, d, "b", long[mostFile-behind:]), disk(file("a", long, "x"), file("b", "safe", long)))
		refusesAdd(t, d, "b", long[mostFile-behind:]+"x")
		refusesAdd(t, d, "b", long+"x")
	}
	refusesAdd(t, disk(file("a", "", long)), "a", "x")
	refusesAdd(t, disk(file("a", "", "x")), "a", long)
	isDisk(t, impl.DiskSync(disk(file("a", "", long)), "a"), disk(file("a", long, long)))
	isDisk(t, impl.DiskCrash(disk(file("a", "", long)), []int{mostFile}), disk(file("a", long, long)))
	isDisk(t, impl.DiskCrash(disk(file("a", "", long)), []int{mostFile + 1}), disk(file("a", "", "")))
	isDisk(t, impl.DiskCrash(disk(file("a", "", long)), []int{-1}), disk(file("a", long, long)))
	isDisk(t, impl.DiskCrash(disk(file("a", long, long[1:])), []int{-1}), disk(file("a", long[1:], long[1:])))
}

func TestNothingComesOfARefusedDisk(t *testing.T) {
	for _, d := range refusedDisks() {
		before := copyDisk(d)
		names := []string{"a", "b", "ckpt", "", strings.Repeat("n", mostName)}
		for _, f := range d.Files[:min(len(d.Files), 6)] {
			names = append(names, f.Name)
		}
		for _, name := range names {
			refusesPut(t, d, name, "x")
			refusesAdd(t, d, name, "x")
			refusesAdd(t, d, name, "")
			if got := impl.DiskRead(d, name); got != "" {
				t.Errorf("DiskRead(%s; %.40q) = %.40q", brief(d), name, got)
			}
			if got := impl.DiskSync(d, name); len(got.Files) > 0 {
				t.Errorf("DiskSync(%s; %.40q) = %s", brief(d), name, brief(got))
			}
		}
		for _, cuts := range [][]int{nil, {0}, {1, 1, 1, 1, 1, 1}, filled(1000, -1)} {
			if got := impl.DiskCrash(d, cuts); len(got.Files) > 0 {
				t.Errorf("DiskCrash(%s) = %s", brief(d), brief(got))
			}
		}
		if !sameDisk(d, before) {
			t.Errorf("%s is now %s", brief(before), brief(d))
		}
	}
}

func TestSurvives(t *testing.T) {
	type left map[int]string
	const least, greatest = math.MinInt, math.MaxInt
	for f, cuts := range map[[2]string]left{
		{"", ""}:       {0: "", 1: "", -1: "", 2: "", least: "", greatest: ""},
		{"abc", "abc"}: {0: "abc", 1: "abc", 2: "abc", -1: "abc", -2: "abc", 3: "abc", 4: "abc", least: "abc", greatest: "abc"},
		// Of two bytes behind, 3 cuts are different ones: 2 to the 63 is 2 and a multiple of 3.
		{"a", "abc"}: {0: "a", 1: "ab", 2: "abc", 3: "a", 4: "ab", 5: "abc", 6: "a", -1: "abc", -2: "ab", -3: "a", -4: "abc", least: "ab", least + 1: "abc", least + 2: "a", greatest: "ab", greatest - 1: "a"},
		// Of none safe and three bytes behind, 4 cuts are.
		{"", "xyz"}:              {0: "", 1: "x", 2: "xy", 3: "xyz", 4: "", 5: "x", -1: "xyz", -2: "xy", -3: "x", -4: "", -5: "xyz", least: "", least + 1: "x", greatest: "xyz"},
		{"abc", "abcd"}:          {0: "abc", 1: "abcd", 2: "abc", 3: "abcd", -1: "abcd", -2: "abc", least: "abc", greatest: "abcd"},
		{"ab", "abab"}:           {0: "ab", 1: "aba", 2: "abab", 3: "ab", -1: "abab"},
		{"aa", "aaaaa"}:          {0: "aa", 1: "aaa", 2: "aaaa", 3: "aaaaa", 4: "aa", -3: "aaa"},
		{"\xff", "\xff\x00é"}:    {0: "\xff", 1: "\xff\x00", 2: "\xff\x00\xc3", 3: "\xff\x00é", 4: "\xff"},
		{"é", "é€"}:              {0: "é", 1: "é\xe2", 2: "é\xe2\x82", 3: "é€", 4: "é"},
		{"abc", "ab"}:            {0: "abc", 1: "ab", 2: "abc", 3: "ab", -1: "ab", -2: "abc", -3: "ab", least: "abc", least + 1: "ab", greatest: "ab", greatest - 1: "abc"},
		{"a", ""}:                {0: "a", 1: "", 2: "a", -1: "", -2: "a", least: "a", greatest: ""},
		{"abc", "abd"}:           {0: "abc", 1: "abd", 2: "abc", 7: "abd", 8: "abc", -1: "abd", -4: "abc", least: "abc", greatest: "abd"},
		{"abc", "abdefg"}:        {0: "abc", 1: "abdefg", 2: "abc", 3: "abdefg", 4: "abc", 5: "abdefg", -1: "abdefg", -2: "abc", -3: "abdefg"},
		{"abc", "zabc"}:          {0: "abc", 1: "zabc", 2: "abc", 3: "zabc", -1: "zabc"},
		{"abc", "ABCDEF"}:        {0: "abc", 1: "ABCDEF", 2: "abc", 3: "ABCDEF"},
		{"a\x00", "a"}:           {0: "a\x00", 1: "a", -1: "a"},
		{"\xc3\xa9", "\xc3\xa8"}: {0: "é", 1: "è", -2: "é", -3: "è"},
		{"abc", "zz"}:            {3: "zz", 4: "abc", -3: "zz", -4: "abc"},
	} {
		for cut, want := range cuts {
			for _, name := range []string{"", "a", strings.Repeat("n", 30)} {
				if got := impl.Survives(file(name, f[0], f[1]), cut); got != want {
					t.Errorf("Survives(%q, %q; %d) = %q; want %q", f[0], f[1], cut, got, want)
				}
			}
		}
	}
}

func TestSurvivesIsTheOneReckonedByHand(t *testing.T) {
	texts, cuts := shortTexts(5), manyCuts()
	for _, safe := range texts {
		for _, now := range texts {
			f := file("f", safe, now)
			for _, cut := range cuts {
				if got, want := impl.Survives(f, cut), survivesByHand(f, cut); got != want {
					t.Fatalf("Survives(%q, %q; %d) = %q; want %q", safe, now, cut, got, want)
				}
			}
		}
	}
}

// Nothing is asked of the file: its texts may be longer than on a disk.
func TestSurvivesOfLongTexts(t *testing.T) {
	long := strings.Repeat("x", 2*mostFile)
	for _, f := range []impl.File{file("f", long[:mostFile], long), file("f", "", long), file("f", long, long+"y"), file("f", long, long[1:]), file("f", long+"y", long+"z")} {
		behind := len(f.Now) - len(f.Safe)
		for _, cut := range append(manyCuts(), behind-1, behind, behind+1, -behind, -behind-1, -behind-2) {
			if got, want := impl.Survives(f, cut), survivesByHand(f, cut); got != want {
				t.Errorf("Survives of %d and %d bytes with %d has %d; want %d", len(f.Safe), len(f.Now), cut, len(got), len(want))
			}
		}
	}
}

func TestDiskCrash(t *testing.T) {
	d := disk(file("a", "", "xyz"), file("ab", "abc", "abcde"), file("b", "old", "new"), file("c", "same", "same"))
	left := func(texts ...string) impl.Disk {
		want := copyDisk(d)
		for i, s := range texts {
			want.Files[i].Safe, want.Files[i].Now = s, s
		}
		return want
	}
	for _, x := range []struct {
		cuts []int
		want impl.Disk
	}{
		{nil, left("", "abc", "old", "same")},
		{[]int{}, left("", "abc", "old", "same")},
		{[]int{0, 0, 0, 0}, left("", "abc", "old", "same")},
		{[]int{1}, left("x", "abc", "old", "same")},
		{[]int{3}, left("xyz", "abc", "old", "same")},
		{[]int{4}, left("", "abc", "old", "same")},
		{[]int{0, 1}, left("", "abcd", "old", "same")},
		{[]int{2, 2}, left("xy", "abcde", "old", "same")},
		{[]int{0, 0, 1}, left("", "abc", "new", "same")},
		{[]int{1, 1, 1}, left("x", "abcd", "new", "same")},
		{[]int{-1, -1, -1, -1}, left("xyz", "abcde", "new", "same")},
		{[]int{-2, -2, -2, -2}, left("xy", "abcd", "old", "same")},
		{[]int{1, 2, 3, 4}, left("x", "abcde", "new", "same")},
		{[]int{1, 2, 3, 4, 5}, left("x", "abcde", "new", "same")},
		{append([]int{2, 1, 0, 1}, filled(1000, 7)...), left("xy", "abcd", "old", "same")},
		{[]int{math.MinInt, math.MinInt, math.MinInt, math.MinInt}, left("", "abcd", "old", "same")},
		{[]int{math.MaxInt, math.MaxInt, math.MaxInt, math.MaxInt}, left("xyz", "abcd", "new", "same")},
	} {
		isDisk(t, impl.DiskCrash(d, x.cuts), x.want)
		isDisk(t, impl.DiskCrash(impl.Disk{}, x.cuts), impl.Disk{})
	}
}

// shelfAfter tells what a crash leaves of a disk by hand.
func shelfAfter(d impl.Disk, cuts []int) impl.Disk {
	s := shelfOf(d)
	s.crash(cuts)
	return s.disk()
}

func TestDiskCrashOfAllAcceptedDisks(t *testing.T) {
	for _, d := range acceptedDisks() {
		for _, cut := range []int{0, 1, 2, 5, -1, -2, mostFile, mostFile + 1, math.MinInt, math.MaxInt} {
			for n := range mostFiles + 2 {
				cuts := []int{}
				for i := range n {
					cuts = append(cuts, cut^i)
				}
				isDisk(t, impl.DiskCrash(d, cuts), shelfAfter(d, cuts))
			}
		}
	}
}

// What was synced is left by any crash: as it was; behind more that was added, at the beginning of what is left.
func TestWhatWasSyncedIsLeft(t *testing.T) {
	for _, synced := range []string{"", "a", "frame 1\n", allBytes(), strings.Repeat("x", 5000)} {
		d := putOn(t, putOn(t, impl.Disk{}, "a", "other"), "sink", synced)
		d = impl.DiskSync(d, "sink")
		for _, cut := range manyCuts() {
			cuts := []int{cut, cut}
			if got := impl.DiskRead(impl.DiskCrash(d, cuts), "sink"); got != synced {
				t.Fatalf("behind a crash with %d, %.80q is left of what was synced, %.80q", cut, got, synced)
			}
			for _, more := range []string{"", "b", "frame 2\n", "frame 2\nframe 3\n"} {
				got := impl.DiskRead(impl.DiskCrash(addTo(t, d, "sink", more), cuts), "sink")
				if want := synced + more[:moduloByHand(cut, len(more)+1)]; got != want {
					t.Fatalf("behind a crash with %d, %.80q is left of %.80q and %q", cut, got, synced, more)
				}
			}
			for _, other := range []string{"other", "Other and more", "\x00"} {
				got := impl.DiskRead(impl.DiskCrash(putOn(t, d, "sink", other), cuts), "sink")
				if want := survivesByHand(file("sink", synced, other), cut); got != want {
					t.Fatalf("behind a crash with %d, %.80q is left of %.80q and then %q", cut, got, synced, other)
				}
			}
		}
	}
}

// A second crash takes nothing more: what the first one left is safe.
func TestWhatACrashLeftIsSafe(t *testing.T) {
	d := disk(file("a", "", "xyz"), file("ab", "abc", "abcde"), file("b", "old", "new"), file("c", "same", "same"))
	for _, cut := range manyCuts() {
		once := impl.DiskCrash(d, []int{cut, cut, cut, cut})
		for _, again := range []int{0, 1, cut, -cut, math.MinInt, math.MaxInt} {
			isDisk(t, impl.DiskCrash(once, []int{again, again, again, again}), once)
		}
	}
}

// diskStep does one of several things, told by two numbers, to a disk and to a shelf; a refused one leaves both.
func diskStep(t *testing.T, d impl.Disk, s shelf, kind, n int) impl.Disk {
	t.Helper()
	name := []string{"a", "ab", "abc", "b", "\x00", "\xff", "", strings.Repeat("n", 21)}[n%8]
	text := []string{"", "x", "xy", "yx", allBytes(), strings.Repeat("z", 90000), strings.Repeat("z", mostFile+1)}[n%7]
	next, ok, want := d, true, true
	switch kind % 6 {
	case 0:
		next, ok = impl.DiskPut(d, name, text)
		want = s.put(name, text)
	case 1, 2:
		next, ok = impl.DiskAdd(d, name, text)
		want = s.put(name, s[name].Now+text)
	case 3, 4:
		next = impl.DiskSync(d, name)
		s.sync(name)
	default:
		cuts := mixed(n%7, n)
		next = impl.DiskCrash(d, cuts)
		s.crash(cuts)
	}
	if ok != want {
		t.Fatalf("step %d of %q with %.20q on %s: %v", kind%6, name, text, brief(d), ok)
	}
	if !ok {
		return d
	}
	return next
}

func TestCoursesOfADisk(t *testing.T) {
	grown := 0
	for seed := range 60 {
		d, s := impl.Disk{}, shelf{}
		for i, n := range mixed(120, seed) {
			// A full disk would go on to refuse most new names, so that one is begun again.
			if i%40 == 39 {
				d, s = impl.Disk{}, shelf{}
			}
			d = diskStep(t, d, s, (n+bound)/64, (n+bound)/512)
			isDisk(t, d, s.disk())
			grown = max(grown, len(d.Files))
		}
	}
	if grown != mostFiles {
		t.Errorf("no course has more than %d files", grown)
	}
}

// roomyDisk tells a disk whose list has room behind it, with files that nobody may see, and the list with its room.
func roomyDisk() (impl.Disk, []impl.File) {
	room := []impl.File{file("b", "safe", "safe and now"), file("d", "old", "new"), file("e", "?", "??"), file("a", "?", "??"), {}}
	return disk(room[:2]...), room
}

func TestTheDiskIsLeftAsItWas(t *testing.T) {
	d, room := roomyDisk()
	before := slices.Clone(room)
	cutsRoom := []int{1, 1, 9, 9}
	for _, name := range []string{"a", "b", "bb", "c", "d", "e", "z"} {
		want := shelfOf(disk(before[:2]...))
		want.put(name, "put")
		isDisk(t, putOn(t, d, name, "put"), want.disk())
		want = shelfOf(disk(before[:2]...))
		want.put(name, want[name].Now+"added")
		isDisk(t, addTo(t, d, name, "added"), want.disk())
		want = shelfOf(disk(before[:2]...))
		want.sync(name)
		isDisk(t, impl.DiskSync(d, name), want.disk())
		refusesPut(t, d, name, strings.Repeat("x", mostFile+1))
		refusesAdd(t, d, name, strings.Repeat("x", mostFile+1))
		if name != "b" && name != "d" && impl.DiskRead(d, name) != "" {
			t.Errorf("DiskRead reads %q behind the list", name)
		}
	}
	isDisk(t, impl.DiskCrash(d, cutsRoom[:1]), disk(file("b", "safe ", "safe "), file("d", "old", "old")))
	isDisk(t, impl.DiskCrash(d, cutsRoom[:2]), disk(file("b", "safe ", "safe "), file("d", "new", "new")))
	if !slices.Equal(room, before) || !slices.Equal(cutsRoom, []int{1, 1, 9, 9}) {
		t.Errorf("the disk is written into its argument: %q, %v", room, cutsRoom)
	}
}

// diskAnswers tells what each function makes of a disk that has the files b and d.
func diskAnswers(t *testing.T, d impl.Disk) []impl.Disk {
	t.Helper()
	return []impl.Disk{
		putOn(t, d, "b", "put"), putOn(t, d, "c", "put"), putOn(t, d, "b", impl.DiskRead(d, "b")), addTo(t, d, "d", "added"), addTo(t, d, "z", "added"), addTo(t, d, "d", ""),
		impl.DiskSync(d, "b"), impl.DiskSync(d, "none"), impl.DiskCrash(d, nil), impl.DiskCrash(d, []int{1, 1}), impl.DiskCrash(impl.DiskSync(impl.DiskSync(d, "b"), "d"), nil),
	}
}

func TestDisksAreNewMemory(t *testing.T) {
	d, room := roomyDisk()
	before, want := slices.Clone(room), diskAnswers(t, copyDisk(d))
	for i, got := range diskAnswers(t, d) {
		all := got.Files[:cap(got.Files)]
		for j := range all {
			all[j] = file("scribble", "over", "it")
		}
		if !slices.Equal(room, before) {
			t.Fatalf("answer %d shares memory with its argument: %q", i, room)
		}
		again := diskAnswers(t, d)
		if !slices.EqualFunc(again, want, sameDisk) {
			t.Fatalf("what was written into answer %d is told again", i)
		}
		// What is written into the argument is not seen in an answer.
		room[0], room[1] = file("x", "", ""), file("y", "", "")
		if !slices.EqualFunc(again, want, sameDisk) {
			t.Fatalf("an answer tells what was written into the argument behind it")
		}
		copy(room, before)
	}
}

// No call keeps anything for another one, also while others are under way.
func TestDisksOfSeveralCallersAreApart(t *testing.T) {
	shared := disk(file("b", "safe", "safe and now"), file("d", "old", "new"))
	var all sync.WaitGroup
	for caller := range 8 {
		all.Go(func() {
			d, want := shared, shelfOf(shared)
			for i := range 200 {
				name, text := []string{"a", "b", "d"}[i%3], fmt.Sprint(caller, i, " ")
				got, ok := impl.DiskAdd(d, name, text)
				want.put(name, want[name].Now+text)
				if i%5 == 0 {
					got = impl.DiskSync(got, name)
					want.sync(name)
				}
				if i%50 == 49 {
					got = impl.DiskCrash(got, []int{caller, i})
					want.crash([]int{caller, i})
				}
				if !ok || !sameDisk(got, want.disk()) {
					t.Errorf("caller %d has %s; want %s", caller, brief(got), brief(want.disk()))
					return
				}
				d = got
			}
		})
	}
	all.Wait()
	isDisk(t, shared, disk(file("b", "safe", "safe and now"), file("d", "old", "new")))
}
