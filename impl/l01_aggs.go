package impl

import (
	"strconv"
	"strings"
)

const MaxVal = 1000000
const MaxCount = 1000

// The places of an aggregate's numbers among the words of its text.
const (
	wordN = iota
	wordSum
	wordMin
	wordMax
	aggWords
)

type Agg struct {
	N   int
	Sum int
	Min int
	Max int
}

func AggOk(a Agg) bool {
	switch a.N {
	case 0:
		return a == Agg{}
	case 1:
		return a == AggOf(a.Min)
	}
	return a.inLimits() && a.sumFits()
}

func AggOf(v int) Agg {
	if !isValue(v) {
		return Agg{}
	}
	return Agg{N: 1, Sum: v, Min: v, Max: v}
}

func AggJoin(a Agg, b Agg) (Agg, bool) {
	if !AggOk(a) || !AggOk(b) || a.N+b.N > MaxCount {
		return Agg{}, false
	}
	return a.with(b), true
}

func AggList(list []int) (Agg, bool) {
	if len(list) > MaxCount {
		return Agg{}, false
	}
	all := Agg{}
	for _, v := range list {
		if !isValue(v) {
			return Agg{}, false
		}
		all = all.with(AggOf(v))
	}
	return all, true
}

func AggText(a Agg) string {
	if !AggOk(a) {
		return ""
	}
	return numsText(a.nums())
}

func AggRead(s string) (Agg, bool) {
	// One word too many is enough to refuse a text, however long it is.
	words := strings.SplitN(s, " ", aggWords+1)
	if len(words) != aggWords {
		return Agg{}, false
	}
	var nums [aggWords]int
	for i, word := range words {
		n, ok := numRead(word)
		if !ok {
			return Agg{}, false
		}
		nums[i] = n
	}
	a := aggFrom(nums[:])
	if !AggOk(a) {
		return Agg{}, false
	}
	return a, true
}

func NumText(n int) string {
	return strconv.Itoa(n)
}

// inLimits comes ahead of sumFits: only within the limits can its products not wrap around.
func (a Agg) inLimits() bool {
	return a.N >= 0 && a.N <= MaxCount && isValue(a.Min) && isValue(a.Max) && a.Min <= a.Max
}

// sumFits is for two values or more: one of them is Min and another one Max, and only the rest is free.
func (a Agg) sumFits() bool {
	least := (a.N-1)*a.Min + a.Max
	greatest := (a.N-1)*a.Max + a.Min
	return least <= a.Sum && a.Sum <= greatest
}

// with sets an empty aggregate aside, since its Min and Max of 0 are no values.
func (a Agg) with(b Agg) Agg {
	if a == (Agg{}) {
		return b
	}
	if b == (Agg{}) {
		return a
	}
	return Agg{N: a.N + b.N, Sum: a.Sum + b.Sum, Min: min(a.Min, b.Min), Max: max(a.Max, b.Max)}
}

func (a Agg) nums() []int {
	nums := make([]int, aggWords)
	nums[wordN] = a.N
	nums[wordSum] = a.Sum
	nums[wordMin] = a.Min
	nums[wordMax] = a.Max
	return nums
}

// aggFrom is for as many numbers as an aggregate has.
func aggFrom(nums []int) Agg {
	return Agg{N: nums[wordN], Sum: nums[wordSum], Min: nums[wordMin], Max: nums[wordMax]}
}

func isValue(v int) bool {
	return v >= -MaxVal && v <= MaxVal
}

func numsText(nums []int) string {
	words := make([]string, 0, len(nums))
	for _, n := range nums {
		words = append(words, NumText(n))
	}
	return strings.Join(words, " ")
}

// numRead holds the number's text against the word, since Atoi also takes a `+` and noughts ahead.
func numRead(word string) (int, bool) {
	n, err := strconv.Atoi(word)
	if err != nil || NumText(n) != word {
		return 0, false
	}
	return n, true
}
