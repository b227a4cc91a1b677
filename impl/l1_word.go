package impl

import (
	"strconv"
	"strings"
)

const MaxSignal = 64
const MaxSample = 100000
const MaxNumber = 1000000000000

const RoundDown = 0
const RoundNear = 1
const RoundZero = 2

const minBits = 2
const maxBits = 16
const maxShift = 20
const maxFactor = 1000

type Word struct {
	Bits int
	Wrap bool
}

// bitRow is a number in two's complement, the lowest bit first.
type bitRow [64]bool

// number is one that is shifted: each mode is one of its methods.
type number int

// IsWord reports whether w is a word.
func IsWord(w Word) bool {
	return w.Bits >= minBits && w.Bits <= maxBits
}

// RangeOf returns its least and its greatest number.
func RangeOf(w Word) (int, int, bool) {
	if !IsWord(w) {
		return 0, 0, false
	}
	return leastOf(w), greatestOf(w), true
}

// FitNumber returns a number fitted to a word.
func FitNumber(w Word, x int) (int, bool) {
	if !IsWord(w) || !isNumber(x) {
		return 0, false
	}
	return fit(w, x), true
}

// AddIn returns the fitted sum of two numbers of a word.
func AddIn(w Word, a int, b int) (int, bool) {
	if !IsWord(w) || !isIn(w, a) || !isIn(w, b) {
		return 0, false
	}
	return fit(w, sumOf(a, b)), true
}

// LessIn returns the fitted difference of two numbers of a word.
func LessIn(w Word, a int, b int) (int, bool) {
	if !IsWord(w) || !isIn(w, a) || !isIn(w, b) {
		return 0, false
	}
	return fit(w, sumOf(a, -b)), true
}

// TimesIn returns the product of two numbers of a word, shifted with a mode and then fitted.
func TimesIn(w Word, a int, b int, shift int, mode int) (int, bool) {
	if !IsWord(w) || !isIn(w, a) || !isIn(w, b) || !isShift(shift) || !isMode(mode) {
		return 0, false
	}
	return fit(w, shifted(a*b, shift, mode)), true
}

// RoundShift returns a number shifted.
func RoundShift(x int, shift int, mode int) (int, bool) {
	if !isNumber(x) || !isShift(shift) || !isMode(mode) {
		return 0, false
	}
	return shifted(x, shift, mode), true
}

// RestOfShift returns a number less 2^shift times RoundShift of it.
func RestOfShift(x int, shift int, mode int) (int, bool) {
	if !isNumber(x) || !isShift(shift) || !isMode(mode) {
		return 0, false
	}
	return x - shifted(x, shift, mode)<<shift, true
}

// IsSignal reports whether a list, whose numbers may be any, is a signal.
func IsSignal(s []int) bool {
	if len(s) > MaxSignal {
		return false
	}
	for _, x := range s {
		if !isSample(x) {
			return false
		}
	}
	return true
}

// FitSignal returns a signal with each sample fitted.
func FitSignal(w Word, s []int) ([]int, bool) {
	if !IsWord(w) || !IsSignal(s) {
		return nil, false
	}
	fitted := make([]int, len(s))
	for i, x := range s {
		fitted[i] = fit(w, x)
	}
	return fitted, true
}

// CountUnfit returns how many samples are no numbers of a word.
func CountUnfit(w Word, s []int) (int, bool) {
	if !IsWord(w) || !IsSignal(s) {
		return 0, false
	}
	count := 0
	for _, x := range s {
		if !isIn(w, x) {
			count++
		}
	}
	return count, true
}

// SumOfSignal returns the sum of all samples.
func SumOfSignal(s []int) (int, bool) {
	if !IsSignal(s) {
		return 0, false
	}
	return sumOf(s...), true
}

// EnergyOf returns the sum of the squares of all samples.
func EnergyOf(s []int) (int, bool) {
	if !IsSignal(s) {
		return 0, false
	}
	energy := 0
	for _, x := range s {
		energy += x * x
	}
	return energy, true
}

// PeakOf returns the greatest size of a sample, 0 for none.
func PeakOf(s []int) (int, bool) {
	if !IsSignal(s) {
		return 0, false
	}
	peak := 0
	for _, x := range s {
		peak = max(peak, x, -x)
	}
	return peak, true
}

// AddSignals returns the sums sample by sample, the shorter one with zeros behind it.
func AddSignals(a []int, b []int) ([]int, bool) {
	if !IsSignal(a) || !IsSignal(b) {
		return nil, false
	}
	sums := make([]int, max(len(a), len(b)))
	copy(sums, a)
	for i, x := range b {
		sums[i] = sumOf(sums[i], x)
	}
	return onlySignal(sums)
}

// ScaleSignal returns each sample times k, k in -1000..1000.
func ScaleSignal(s []int, k int) ([]int, bool) {
	if !IsSignal(s) || k < -maxFactor || k > maxFactor {
		return nil, false
	}
	scaled := make([]int, len(s))
	for i, x := range s {
		scaled[i] = x * k
	}
	return onlySignal(scaled)
}

// DelaySignal returns d zeros and the signal behind them, d in 0..MaxSignal.
func DelaySignal(s []int, d int) ([]int, bool) {
	if !IsSignal(s) || d < 0 || d > MaxSignal {
		return nil, false
	}
	delayed := make([]int, d+len(s))
	copy(delayed[d:], s)
	return onlySignal(delayed)
}

// DifferencesOf returns each sample less the one before it, the first one less 0.
func DifferencesOf(s []int) ([]int, bool) {
	if !IsSignal(s) {
		return nil, false
	}
	differences := make([]int, len(s))
	before := 0
	for i, x := range s {
		differences[i] = sumOf(x, -before)
		before = x
	}
	return onlySignal(differences)
}

// RunningSums returns for each sample the sum of all up to it, with it.
func RunningSums(s []int) ([]int, bool) {
	if !IsSignal(s) {
		return nil, false
	}
	sums := make([]int, len(s))
	for i := range s {
		sums[i] = sumOf(s[:i+1]...)
	}
	return onlySignal(sums)
}

// SignalText returns the samples in decimal with , between them, or - for none.
func SignalText(s []int) (string, bool) {
	if !IsSignal(s) {
		return "", false
	}
	return listText(s), true
}

// ParseSignal returns the signal with a SignalText. It fails if there is none.
func ParseSignal(t string) ([]int, bool) {
	s, ok := readSamples(t)
	if !ok {
		return nil, false
	}
	// Reading lets texts like +1, -0 and 01 pass, which no signal has.
	if text, ok := SignalText(s); !ok || text != t {
		return nil, false
	}
	return s, true
}

func readSamples(t string) ([]int, bool) {
	if t == "-" {
		return nil, true
	}
	// One part more than a signal has is enough to see that there are too many.
	parts := strings.SplitN(t, ",", MaxSignal+1)
	s := make([]int, len(parts))
	for i, part := range parts {
		x, err := strconv.Atoi(part)
		if err != nil {
			return nil, false
		}
		s[i] = x
	}
	return s, true
}

// listText writes any numbers as SignalText writes samples.
func listText(list []int) string {
	if len(list) == 0 {
		return "-"
	}
	texts := make([]string, len(list))
	for i, x := range list {
		texts[i] = strconv.Itoa(x)
	}
	return strings.Join(texts, ",")
}

func onlySignal(list []int) ([]int, bool) {
	if !IsSignal(list) {
		return nil, false
	}
	return list, true
}

func isSample(x int) bool {
	return x >= -MaxSample && x <= MaxSample
}

func isNumber(x int) bool {
	return x >= -MaxNumber && x <= MaxNumber
}

func isShift(shift int) bool {
	return shift >= 0 && shift <= maxShift
}

func isMode(mode int) bool {
	return mode == RoundDown || mode == RoundNear || mode == RoundZero
}

func shifted(x int, shift int, mode int) int {
	return roundingOf(mode)(number(x), shift)
}

func roundingOf(mode int) func(x number, shift int) int {
	switch mode {
	case RoundNear:
		return number.near
	case RoundZero:
		return number.towardsZero
	}
	return number.down
}

func (x number) down(shift int) int {
	return int(x) >> shift
}

func (x number) near(shift int) int {
	half := number(1<<shift) / 2
	return (x + half).down(shift)
}

func (x number) towardsZero(shift int) int {
	return int(x) / (1 << shift)
}

// sumOf adds in single precision, which is exact for whole numbers up to 2^24:
// no sum of a signal's samples is greater in size than MaxSignal * MaxSample.
func sumOf(samples ...int) int {
	var sum float32
	for _, x := range samples {
		sum += float32(x)
	}
	return int(sum)
}

func leastOf(w Word) int {
	return -1 << (w.Bits - 1)
}

func greatestOf(w Word) int {
	return 1<<(w.Bits-1) - 1
}

// isIn compares whole rows of bits: a number is one of the word if cutting it
// to the word's bits loses nothing.
func isIn(w Word, x int) bool {
	row := bitsOf(x)
	return cutTo(w.Bits, row) == row
}

func fit(w Word, x int) int {
	if w.Wrap {
		return numberOf(cutTo(w.Bits, bitsOf(x)))
	}
	if isIn(w, x) {
		return x
	}
	if x < 0 {
		return leastOf(w)
	}
	return greatestOf(w)
}

func bitsOf(x int) bitRow {
	var row bitRow
	for i := range row {
		row[i] = x>>i&1 == 1
	}
	return row
}

func numberOf(row bitRow) int {
	x := 0
	for i, bit := range row {
		if bit {
			x |= 1 << i
		}
	}
	return x
}

// cutTo repeats the highest of the bits that stay, as the sign, in all above it.
func cutTo(bits int, row bitRow) bitRow {
	for i := bits; i < len(row); i++ {
		row[i] = row[bits-1]
	}
	return row
}
