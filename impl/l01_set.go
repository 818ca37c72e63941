package impl

import (
	"iter"
	"math/bits"
	"strconv"
	"strings"
)

const OK = 0
const ErrForm = 1
const ErrMany = 2
const ErrRange = 3
const ErrNone = 4
const ErrText = 5
const ErrTaken = 6
const ErrSign = 7
const ErrPolicy = 8
const ErrOld = 9
const ErrState = 10
const MaxPrincipal = 8

// A list may name a principal several times, so it may be longer than MaxPrincipal.
const maxListed = 20

type IntResult struct {
	Code  int64
	Value int64
}
type IntsResult struct {
	Code int64
	List []int64
}
type TextResult struct {
	Code int64
	Text string
}

// bitSet has one bit for each principal and no more, so that none of its values is a fault.
type bitSet uint8

func isPrincipal(number int64) bool {
	return number >= 1 && number <= MaxPrincipal
}

// bitOf is asked of principals alone.
func bitOf(principal int64) bitSet {
	return 1 << uint64(principal-1)
}

// principals tells them rising: lists and texts lean on that order.
func (s bitSet) principals() iter.Seq[int64] {
	return func(yield func(int64) bool) {
		for p := int64(1); p <= MaxPrincipal; p++ {
			if s&bitOf(p) != 0 && !yield(p) {
				return
			}
		}
	}
}

func numberText(number int64) string {
	return strconv.FormatInt(number, 10)
}

func (s bitSet) text() string {
	var words []string
	for p := range s.principals() {
		words = append(words, numberText(p))
	}
	return "{" + strings.Join(words, ",") + "}"
}

func SetFault(set int64) int64 {
	if set < 0 || set >= 1<<MaxPrincipal {
		return ErrRange
	}
	return OK
}

func SetOf(list []int64) IntResult {
	if len(list) > maxListed {
		return IntResult{Code: ErrMany}
	}
	var s bitSet
	for _, p := range list {
		if !isPrincipal(p) {
			return IntResult{Code: ErrRange}
		}
		s |= bitOf(p)
	}
	return IntResult{Value: int64(s)}
}

func ListOf(set int64) IntsResult {
	if code := SetFault(set); code != OK {
		return IntsResult{Code: code}
	}
	var list []int64
	for p := range bitSet(set).principals() {
		list = append(list, p)
	}
	return IntsResult{List: list}
}

func SizeOf(set int64) IntResult {
	if code := SetFault(set); code != OK {
		return IntResult{Code: code}
	}
	return IntResult{Value: int64(bits.OnesCount8(uint8(set)))}
}

func InSet(set int64, principal int64) bool {
	return SetFault(set) == OK && isPrincipal(principal) && bitSet(set)&bitOf(principal) != 0
}

func SetText(set int64) TextResult {
	if code := SetFault(set); code != OK {
		return TextResult{Code: code}
	}
	return TextResult{Text: bitSet(set).text()}
}

// ParseSet gathers the principals whose digits stand in text: a set's own text has
// just these, so no other set can have that text, and one comparison decides.
func ParseSet(text string) IntResult {
	var s bitSet
	for _, b := range []byte(text) {
		if digit := int64(b) - '0'; isPrincipal(digit) {
			s |= bitOf(digit)
		}
	}
	if s.text() != text {
		return IntResult{Code: ErrText}
	}
	return IntResult{Value: int64(s)}
}
