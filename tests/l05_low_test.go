package tests

import (
	"math"
	"math/bits"
	"math/rand"
	"slices"
	"strings"
	"testing"

	"loop.example/g00910/impl"
)

// knownAces has hands whose patterns and low ranks are told by the rules.
var knownAces = []struct {
	text    string
	pattern int64
	ranks   []int64
}{
	{"5c4d3h2sAc", 0, []int64{4, 3, 2, 1, 0}},
	{"5h4h3h2hAh", 0, []int64{4, 3, 2, 1, 0}},
	{"2c3d4h5s6c", 0, []int64{5, 4, 3, 2, 1}},
	{"8c7d6h5s4c", 0, []int64{7, 6, 5, 4, 3}},
	{"8s7s6s5s4s", 0, []int64{7, 6, 5, 4, 3}},
	{"8c4d3h2sAc", 0, []int64{7, 3, 2, 1, 0}},
	{"9c4d3h2sAc", 0, []int64{8, 3, 2, 1, 0}},
	{"9d4d3d2dAd", 0, []int64{8, 3, 2, 1, 0}},
	{"AsKsQsJsTs", 0, []int64{12, 11, 10, 9, 0}},
	{"AsKsQsJs9s", 0, []int64{12, 11, 10, 8, 0}},
	{"KsQsJsTs9s", 0, []int64{12, 11, 10, 9, 8}},
	{"Kc2d3h4sAc", 0, []int64{12, 3, 2, 1, 0}},
	{"AcAd2h3s4c", 1, []int64{0, 0, 3, 2, 1}},
	{"AcAdKhQsJc", 1, []int64{0, 0, 12, 11, 10}},
	{"2c2dAhKsQc", 1, []int64{1, 1, 12, 11, 0}},
	{"KcKdAh2s3c", 1, []int64{12, 12, 2, 1, 0}},
	{"7c2dAh7s9c", 1, []int64{6, 6, 8, 1, 0}},
	{"AcAd2h2s3c", 2, []int64{1, 1, 0, 0, 2}},
	{"AcAd2h2sKc", 2, []int64{1, 1, 0, 0, 12}},
	{"KcKdAhAs2c", 2, []int64{12, 12, 0, 0, 1}},
	{"KcKdQhQsAc", 2, []int64{12, 12, 11, 11, 0}},
	{"9cTd9hTsJc", 2, []int64{9, 9, 8, 8, 10}},
	{"AcAdAh2s3c", 3, []int64{0, 0, 0, 2, 1}},
	{"AcAdAhKsQc", 3, []int64{0, 0, 0, 12, 11}},
	{"2c2d2hAsKc", 3, []int64{1, 1, 1, 12, 0}},
	{"KcKdKhAs2c", 3, []int64{12, 12, 12, 1, 0}},
	{"AcAdAh2s2c", 4, []int64{0, 0, 0, 1, 1}},
	{"2c2d2hAsAc", 4, []int64{1, 1, 1, 0, 0}},
	{"AcKdAhKsAs", 4, []int64{0, 0, 0, 12, 12}},
	{"KcKdKhAsAc", 4, []int64{12, 12, 12, 0, 0}},
	{"AcAdAhAs2c", 5, []int64{0, 0, 0, 0, 1}},
	{"AcAdAhAsKc", 5, []int64{0, 0, 0, 0, 12}},
	{"2c2d2h2sAc", 5, []int64{1, 1, 1, 1, 0}},
	{"KcKdKhKsAc", 5, []int64{12, 12, 12, 12, 0}},
	{"9c8d9h9s9d", 5, []int64{8, 8, 8, 8, 7}},
}

// knownDeuces has hands whose categories and kickers are told by the rules; only those of the ranks
// 0, 1, 2, 3 and 12 differ from chapter 4.
var knownDeuces = []struct {
	text     string
	category int64
	kickers  []int64
}{
	{"7c5d4h3s2c", 0, []int64{5, 3, 2, 1, 0}},
	{"7d6h4h3s2c", 0, []int64{5, 4, 2, 1, 0}},
	{"5c4d3h2sAc", 0, []int64{12, 3, 2, 1, 0}},
	{"5h4h3h2hAs", 0, []int64{12, 3, 2, 1, 0}},
	{"6c4d3h2sAc", 0, []int64{12, 4, 2, 1, 0}},
	{"AcKdQhJs9c", 0, []int64{12, 11, 10, 9, 7}},
	{"2c2d3h4s5c", 1, []int64{0, 0, 3, 2, 1}},
	{"AcAdKhQsJc", 1, []int64{12, 12, 11, 10, 9}},
	{"2c2d3h3sAc", 2, []int64{1, 1, 0, 0, 12}},
	{"2c2d2hAsKc", 3, []int64{0, 0, 0, 12, 11}},
	{"6c5d4h3s2c", 4, []int64{4, 3, 2, 1, 0}},
	{"8c9dThJsQc", 4, []int64{10, 9, 8, 7, 6}},
	{"AsKsQsJsTd", 4, []int64{12, 11, 10, 9, 8}},
	{"5c4c3c2cAc", 5, []int64{12, 3, 2, 1, 0}},
	{"As2s3s4s5s", 5, []int64{12, 3, 2, 1, 0}},
	{"7h5h4h3h2h", 5, []int64{5, 3, 2, 1, 0}},
	{"AhKhQhJh9h", 5, []int64{12, 11, 10, 9, 7}},
	{"2c2d2h3s3c", 6, []int64{0, 0, 0, 1, 1}},
	{"2c2d2h2sAc", 7, []int64{0, 0, 0, 0, 12}},
	{"6s5s4s3s2s", 8, []int64{4, 3, 2, 1, 0}},
	{"AsKsQsJsTs", 8, []int64{12, 11, 10, 9, 8}},
}

// knownBadugis has four cards and those that their badugi value takes, with their low ranks.
var knownBadugis = []struct {
	text  string
	taken string
	ranks []int64
}{
	{"Ac2d3h4s", "4s3h2dAc", []int64{3, 2, 1, 0}},
	{"KcQdJhTs", "KcQdJhTs", []int64{12, 11, 10, 9}},
	{"AcKdQhJs", "KdQhJsAc", []int64{12, 11, 10, 0}},
	{"2s9dAhKc", "Kc9d2sAh", []int64{12, 8, 1, 0}},
	{"Ac2d3h4h", "3h2dAc", []int64{2, 1, 0}},
	{"Ac2d3hAs", "3h2dAc", []int64{2, 1, 0}},
	{"KcQdJhTh", "KcQdTh", []int64{12, 11, 9}},
	{"Ac2d3h3c", "3h2dAc", []int64{2, 1, 0}},
	{"AcAd2h3s", "3s2hAc", []int64{2, 1, 0}},
	{"AdAc2d3s", "3s2dAc", []int64{2, 1, 0}},
	{"Kc2dKh3s", "Kc3s2d", []int64{12, 2, 1}},
	{"KcKhKs2h", "Kc2h", []int64{12, 1}},
	{"KcKhKs2d", "Kc2d", []int64{12, 1}},
	{"KhKs2c2d", "Kh2c", []int64{12, 1}},
	{"2s2hKdKc", "Kc2h", []int64{12, 1}},
	{"4c3c2cAd", "2cAd", []int64{1, 0}},
	{"Kd4c3c2c", "Kd2c", []int64{12, 1}},
	{"KcQcJdTd", "QcTd", []int64{11, 9}},
	{"Ac2c3d4d", "3dAc", []int64{2, 0}},
	{"Ac2c2dAd", "2cAd", []int64{1, 0}},
	{"AhAsAcKc", "KcAh", []int64{12, 0}},
	{"AcAsAdAh", "Ac", []int64{0}},
	{"KhKsKdKc", "Kc", []int64{12}},
	{"2s2d2h2c", "2c", []int64{1}},
	{"Ac2c3c4c", "Ac", []int64{0}},
	{"KsQsJsTs", "Ts", []int64{9}},
	{"KdAd2d3d", "Ad", []int64{0}},
}

// lowRanksAs looks the ranks up in a text, and counts them down.
func lowRanksAs(list []int64) []int64 {
	var ranks []int64
	for rank := 12; rank >= 0; rank-- {
		for _, card := range list {
			if "A23456789TJQK"[rank] == allTexts[2*card] {
				ranks = append(ranks, int64(rank))
			}
		}
	}
	return ranks
}

// digitsAs puts ranks together by the powers of 13.
func digitsAs(ranks []int64) int64 {
	number := int64(0)
	for i, rank := range ranks {
		number += rank * []int64{1, 13, 169, 2197, 28561}[len(ranks)-1-i]
	}
	return number
}

// aceAs returns the pattern and the ordered low ranks of five cards by another way than the
// program's.
func aceAs(five []int64) (int64, []int64) {
	var counts [13]int
	for _, rank := range lowRanksAs(five) {
		counts[rank]++
	}
	alike := 0
	for _, count := range counts {
		alike += count * (count - 1) / 2
	}
	// Five cards have 0, 1, 2, 3, 4 or 6 pairs of cards with the same rank.
	return int64(min(alike, 5)), kickersAs(counts)
}

// deuceAs returns the category and the kickers of five cards without a straight below an ace.
func deuceAs(five []int64) (int64, []int64) {
	category, kickers := highAs(five)
	if !slices.Equal(kickers, []int64{3, 2, 1, 0, 12}) {
		return category, kickers
	}
	if category == impl.StraightFlush {
		return impl.Flush, []int64{12, 3, 2, 1, 0}
	}
	return impl.HighCard, []int64{12, 3, 2, 1, 0}
}

func aceValueAs(five []int64) int64 { return valueAs(aceAs(five)) }

func deuceValueAs(five []int64) int64 { return valueAs(deuceAs(five)) }

// badugiAs looks at all sets of cards, in which it marks ranks and suits by bits; it returns the
// least of their values, and the lexicographically smallest cards that have it.
func badugiAs(four []int64) (int64, []int64) {
	ordered := slices.Clone(four)
	slices.SortFunc(ordered, func(a, b int64) int { return int((b+4)%52/4 - (a+4)%52/4) })
	least, leastCards := int64(math.MaxInt64), []int64(nil)
	for set := 1; set < 16; set++ {
		var chosen []int64
		ranks, suits := uint(0), uint(0)
		for i, card := range ordered {
			if set>>i&1 == 1 {
				chosen = append(chosen, card)
				ranks |= 1 << (card / 4)
				suits |= 1 << (card % 4)
			}
		}
		if bits.OnesCount(ranks) < len(chosen) || bits.OnesCount(suits) < len(chosen) {
			continue
		}
		value := digitsAs(lowRanksAs(chosen)) + 28561*int64(4-len(chosen))
		if value < least || value == least && slices.Compare(chosen, leastCards) < 0 {
			least, leastCards = value, chosen
		}
	}
	return least, leastCards
}

// leastAs returns the least value of all sets of five cards.
func leastAs(list []int64, valueOf func([]int64) int64) int64 {
	least := int64(math.MaxInt64)
	for set := range uint(1) << len(list) {
		if bits.OnesCount(set) != 5 {
			continue
		}
		var five []int64
		for i, card := range list {
			if set>>i&1 == 1 {
				five = append(five, card)
			}
		}
		least = min(least, valueOf(five))
	}
	return least
}

// lowFunctions are the functions for five to eight cards, with another way to their results.
func lowFunctions() map[string]struct {
	call func([]int64) (int64, int64)
	want func([]int64) int64
} {
	return map[string]struct {
		call func([]int64) (int64, int64)
		want func([]int64) int64
	}{
		"BestAce": {impl.BestAce, aceValueAs}, "BestDeuce": {impl.BestDeuce, deuceValueAs},
	}
}

// lowLists are those of chapter 4, and the known hands of this one with further cards.
func lowLists() [][]int64 {
	lists := evaluatedLists()
	source := rand.New(rand.NewSource(5))
	var texts []string
	for _, hand := range knownAces {
		texts = append(texts, hand.text)
	}
	for _, hand := range knownDeuces {
		texts = append(texts, hand.text)
	}
	for _, text := range texts {
		for more := range 4 {
			list := cardsWithText(text)
			for _, i := range source.Perm(52) {
				if card := int64(i); len(list) < 5+more && !slices.Contains(list, card) {
					list = append(list, card)
				}
			}
			source.Shuffle(len(list), func(i, j int) { list[i], list[j] = list[j], list[i] })
			lists = append(lists, list)
		}
	}
	return lists
}

// expectCode reports a value or a code that differs from what is told.
func expectCode(t *testing.T, name string, list []int64, call func([]int64) (int64, int64), value, code int64) {
	t.Helper()
	if got, gotCode := call(list); got != value || gotCode != code {
		t.Error(name, "of", list, "is", got, gotCode, "and not", value, code)
	}
}

// expectList reports a list or a code that differs from what is told.
func expectList(t *testing.T, name string, list []int64, call func([]int64) ([]int64, int64), value []int64, code int64) {
	t.Helper()
	if got, gotCode := call(list); !slices.Equal(got, value) || gotCode != code {
		t.Error(name, "of", list, "is", got, gotCode, "and not", value, code)
	}
}

func TestKnownAcesInAllOrders(t *testing.T) {
	for _, hand := range knownAces {
		want := 371293*hand.pattern + digitsAs(hand.ranks)
		for _, five := range orders(cardsWithText(hand.text)) {
			expectCode(t, "AceValue", five, impl.AceValue, want, impl.ErrNone)
			expectCode(t, "BestAce", five, impl.BestAce, want, impl.ErrNone)
		}
		if isEight := hand.pattern == 0 && hand.ranks[0] < 8; impl.IsEightOrBetter(want) != isEight {
			t.Error("IsEightOrBetter of the value of", hand.text, "is not", isEight)
		}
	}
}

func TestKnownDeucesInAllOrders(t *testing.T) {
	for _, hand := range knownDeuces {
		want := 371293*hand.category + digitsAs(hand.kickers)
		for _, five := range orders(cardsWithText(hand.text)) {
			expectCode(t, "DeuceValue", five, impl.DeuceValue, want, impl.ErrNone)
			expectCode(t, "BestDeuce", five, impl.BestDeuce, want, impl.ErrNone)
		}
	}
}

func TestSomeLowValues(t *testing.T) {
	for text, want := range map[string]int64{
		"5c4d3h2sAc": 121186, "5h4h3h2hAh": 121186, "8c7d6h5s4c": 214009, "9c4d3h2sAc": 235430,
		"AcAd2h3s4c": 371827, "KcKdKhKsAc": 2227745,
	} {
		expectCode(t, "AceValue", cardsWithText(text), impl.AceValue, want, impl.ErrNone)
	}
	for text, want := range map[string]int64{
		"7c5d4h3s2c": 149747, "5c4d3h2sAc": 349674, "5c4c3c2cAc": 2206139, "6c5d4h3s2c": 1606358,
		"AcAdKhQsJc": 742387, "AsKsQsJsTs": 3339058,
	} {
		expectCode(t, "DeuceValue", cardsWithText(text), impl.DeuceValue, want, impl.ErrNone)
	}
	for text, want := range map[string]int64{
		"Ac2d3h4s": 6942, "KcQdJhTs": 28362, "Ac2d3h4h": 28912, "Ac2c3d4d": 57148, "AcAsAdAh": 85683,
		"Ac2c3c4c": 85683, "KhKsKdKc": 85695, "KsQsJsTs": 85692,
	} {
		expectCode(t, "BadugiValue", cardsWithText(text), impl.BadugiValue, want, impl.ErrNone)
	}
}

// All sets of five cards are looked at, each in an order that depends on its cards.
func TestAllLowHands(t *testing.T) {
	eights := int64(0)
	for a := range int64(52) {
		for b := range a {
			for c := range b {
				for d := range c {
					for e := range d {
						five := [][]int64{{a, b, c, d, e}, {c, a, e, b, d}, {e, d, c, b, a}}[(a+b+c+d+e)%3]
						value := aceValueAs(five)
						expectCode(t, "AceValue", five, impl.AceValue, value, impl.ErrNone)
						expectCode(t, "DeuceValue", five, impl.DeuceValue, deuceValueAs(five), impl.ErrNone)
						if impl.IsEightOrBetter(value) {
							eights++
						}
					}
				}
			}
		}
		if t.Failed() {
			t.FailNow()
		}
	}
	if got := impl.CountEights(); got != eights || got != 57344 {
		t.Error("CountEights is", got, "but", eights, "hands are eight or better")
	}
}

func TestIsEightOrBetter(t *testing.T) {
	for value, want := range map[int64]bool{
		0: true, 1: true, 121186: true, 228487: true, 228488: false, 228489: false, 235430: false,
		371292: false, 371293: false, 371293 + 121186: false, 3341636: false, -1: false, -228488: false,
		1 << 32: false, 1<<32 + 5: false, -1 << 32: false, math.MaxInt64: false, math.MinInt64: false,
	} {
		if impl.IsEightOrBetter(value) != want {
			t.Error("IsEightOrBetter of", value, "is not", want)
		}
	}
	for value := int64(-1000); value < 500000; value++ {
		if impl.IsEightOrBetter(value) != (value >= 0 && value < 228488) {
			t.Error("IsEightOrBetter of", value)
		}
	}
}

func TestKnownBadugisInAllOrders(t *testing.T) {
	for _, hand := range knownBadugis {
		taken := cardsWithText(hand.taken)
		want := digitsAs(hand.ranks) + 28561*int64(4-len(taken))
		for _, four := range orders(cardsWithText(hand.text)) {
			expectCode(t, "BadugiValue", four, impl.BadugiValue, want, impl.ErrNone)
			expectList(t, "BadugiCards", four, impl.BadugiCards, taken, impl.ErrNone)
		}
	}
}

// All sets of four cards are looked at, each in an order that depends on its cards.
func TestAllBadugis(t *testing.T) {
	var sizes [5]int
	for a := range int64(52) {
		for b := range a {
			for c := range b {
				for d := range c {
					four := [][]int64{{a, b, c, d}, {c, a, d, b}, {d, c, b, a}}[(a+b+c+d)%3]
					value, taken := badugiAs(four)
					expectCode(t, "BadugiValue", four, impl.BadugiValue, value, impl.ErrNone)
					expectList(t, "BadugiCards", four, impl.BadugiCards, taken, impl.ErrNone)
					sizes[len(taken)]++
				}
			}
		}
		if t.Failed() {
			t.FailNow()
		}
	}
	// All four are taken from 715 sets of ranks with 24 orders of suits, and only one from the cards
	// of one suit or of one rank.
	if sizes[4] != 715*24 || sizes[1] != 4*715+13 || sizes[2]+sizes[3] != 270725-17160-2873 {
		t.Error("the tests' own badugis have the sizes", sizes)
	}
}

func TestBadugisHaveDifferentRanksAndSuits(t *testing.T) {
	source := rand.New(rand.NewSource(55))
	for range 5000 {
		var four []int64
		for _, card := range source.Perm(52)[:4] {
			four = append(four, int64(card))
		}
		taken, code := impl.BadugiCards(four)
		if code != impl.ErrNone || len(taken) == 0 {
			t.Fatal("BadugiCards of", textOf(four), "is", taken, code)
		}
		for i, card := range taken {
			if !slices.Contains(four, card) {
				t.Error("BadugiCards of", textOf(four), "has", card)
			}
			for _, other := range taken[:i] {
				if card/4 == other/4 || card%4 == other%4 || (other+4)%52/4 < (card+4)%52/4 {
					t.Error("BadugiCards of", textOf(four), "has", other, "before", card)
				}
			}
		}
	}
}

func TestBestLowOfFiveToEight(t *testing.T) {
	for name, function := range lowFunctions() {
		for _, list := range lowLists() {
			expectCode(t, name, list, function.call, leastAs(list, function.want), impl.ErrNone)
		}
	}
}

func TestKnownBestLows(t *testing.T) {
	for _, c := range []struct {
		text  string
		ace   string
		deuce string
	}{
		{"KcKd5c4d3h2sAc", "5c4d3h2sAc", "Kc5c4d3h2s"},
		{"7c5d4h3s2cAd", "5d4h3s2cAd", "7c5d4h3s2c"},
		{"6c5d4h3s2c", "6c5d4h3s2c", "6c5d4h3s2c"},
		{"6c5d4h3s2cAd", "5d4h3s2cAd", "5d4h3s2cAd"},
		{"6h5d4h3s2cAd9h", "5d4h3s2cAd", "9h5d4h3s2c"},
		{"7h5h4h3h2h8h", "7h5h4h3h2h", "7h5h4h3h2h"},
		{"7h5h4h3h2h8s", "7h5h4h3h2h", "8s5h4h3h2h"},
		{"AcAdAhAs2c2d2h2s", "2c2dAcAdAh", "AcAd2c2d2h"},
		{"AcAdAhAs2c2d2h", "2c2dAcAdAh", "AcAd2c2d2h"},
		{"KcKdKhKsQcQdJhJs", "QcQdJhJsKc", "QcQdJhJsKc"},
	} {
		list := cardsWithText(c.text)
		expectCode(t, "BestAce", list, impl.BestAce, aceValueAs(cardsWithText(c.ace)), impl.ErrNone)
		expectCode(t, "BestDeuce", list, impl.BestDeuce, deuceValueAs(cardsWithText(c.deuce)), impl.ErrNone)
	}
}

func TestOrderDoesNotMatterForLows(t *testing.T) {
	source := rand.New(rand.NewSource(54))
	for name, function := range lowFunctions() {
		for _, list := range lowLists() {
			want, code := function.call(list)
			if code != impl.ErrNone {
				t.Fatal(name, "of", textOf(list), "is", want, code)
			}
			for range 10 {
				other := slices.Clone(list)
				source.Shuffle(len(other), func(i, j int) { other[i], other[j] = other[j], other[i] })
				expectCode(t, name, other, function.call, want, impl.ErrNone)
			}
		}
	}
}

func TestMoreCardsAreNeverGreater(t *testing.T) {
	for name, function := range lowFunctions() {
		smaller := 0
		for _, list := range lowLists() {
			all, _ := function.call(list)
			for i := range list {
				fewer := slices.Delete(slices.Clone(list), i, i+1)
				if len(fewer) < 5 {
					continue
				}
				value, code := function.call(fewer)
				if value < all || code != impl.ErrNone {
					t.Error(name, "of", textOf(fewer), "is", value, code, "and of", textOf(list), all)
				}
				if value > all {
					smaller++
				}
			}
		}
		if smaller == 0 {
			t.Error(name, "is never less with more cards")
		}
	}
}

func TestLowRanks(t *testing.T) {
	for text, want := range map[string][]int64{
		"": nil, "Ac": {0}, "2s": {1}, "Kd": {12}, "Ac2d": {1, 0}, "2dAc": {1, 0}, "AcKd": {12, 0},
		"AcAdAhAs": {0, 0, 0, 0}, "AcKsAdKh": {12, 12, 0, 0}, "2c3d2h3s2d": {2, 2, 1, 1, 1},
		"5c4d3h2sAc": {4, 3, 2, 1, 0}, "Tc9dJhQs": {11, 10, 9, 8}, "AsKsQsJsTs9s8s7s": {12, 11, 10, 9, 8, 7, 6, 0},
		"KcAc2cQc3cJc4cTc": {12, 11, 10, 9, 3, 2, 1, 0}, "7c7d7h7s6c6d6h6s": {6, 6, 6, 6, 5, 5, 5, 5},
	} {
		expectList(t, "LowRanks", cardsWithText(text), impl.LowRanks, want, impl.ErrNone)
	}
	expectList(t, "LowRanks", []int64{}, impl.LowRanks, nil, impl.ErrNone)
	for card := range int64(52) {
		rank := int64(strings.IndexByte("A23456789TJQK", allTexts[2*card]))
		expectList(t, "LowRanks", []int64{card}, impl.LowRanks, []int64{rank}, impl.ErrNone)
	}
	for _, list := range append(lowLists(), cardLists()...) {
		if len(list) <= 8 {
			expectList(t, "LowRanks", list, impl.LowRanks, lowRanksAs(list), impl.ErrNone)
		} else {
			expectList(t, "LowRanks", list, impl.LowRanks, nil, impl.ErrInvalid)
		}
	}
}

func TestLowHandsThatAreNone(t *testing.T) {
	for _, list := range wrongLists(5, 5) {
		expectCode(t, "AceValue", list, impl.AceValue, 0, impl.ErrInvalid)
		expectCode(t, "DeuceValue", list, impl.DeuceValue, 0, impl.ErrInvalid)
	}
	for _, list := range wrongLists(4, 4) {
		expectCode(t, "BadugiValue", list, impl.BadugiValue, 0, impl.ErrInvalid)
		expectList(t, "BadugiCards", list, impl.BadugiCards, nil, impl.ErrInvalid)
	}
	for _, list := range wrongLists(5, 8) {
		expectCode(t, "BestAce", list, impl.BestAce, 0, impl.ErrInvalid)
		expectCode(t, "BestDeuce", list, impl.BestDeuce, 0, impl.ErrInvalid)
	}
	for _, list := range wrongLists(0, 8) {
		expectList(t, "LowRanks", list, impl.LowRanks, nil, impl.ErrInvalid)
	}
}

func TestLowArgumentsStay(t *testing.T) {
	lists := append(lowLists(), wrongLists(5, 8)...)
	for _, hand := range knownBadugis {
		lists = append(lists, orders(cardsWithText(hand.text))...)
	}
	for _, list := range lists {
		kept := guarded(list)
		impl.AceValue(kept)
		impl.DeuceValue(kept)
		impl.BadugiValue(kept)
		impl.BestAce(kept)
		impl.BestDeuce(kept)
		impl.BadugiCards(kept)
		impl.LowRanks(kept)
		if !sameAsGuarded(kept, list) {
			t.Error(list, "has become", kept[:len(list)+3])
		}
	}
}

func TestLowResultsAreNew(t *testing.T) {
	for _, hand := range knownBadugis {
		for _, list := range orders(cardsWithText(hand.text)) {
			kept := guarded(list)
			for name, function := range map[string]func([]int64) ([]int64, int64){
				"BadugiCards": impl.BadugiCards, "LowRanks": impl.LowRanks,
			} {
				call := func() []int64 { got, _ := function(kept); return got }
				if !givesNewLists(call) || !sameAsGuarded(kept, list) {
					t.Error(name, "of", textOf(list), "shares memory")
				}
			}
		}
	}
}
