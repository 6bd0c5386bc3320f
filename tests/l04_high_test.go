package tests

import (
	"cmp"
	"math"
	"math/bits"
	"math/rand"
	"slices"
	"strings"
	"testing"

	"loop.example/g00910/impl"
)

// cardsWithText returns the cards with a text, by looking them up in allTexts.
func cardsWithText(text string) []int64 {
	var list []int64
	for i := 0; i < len(text); i += 2 {
		for card := range int64(52) {
			if allTexts[2*card:2*card+2] == text[i:i+2] {
				list = append(list, card)
			}
		}
	}
	return list
}

// knownHands has hands whose categories and kickers are told by the rules.
var knownHands = []struct {
	text     string
	category int64
	kickers  []int64
}{
	{"2c3d4h5s7c", 0, []int64{5, 3, 2, 1, 0}},
	{"AsKsQsJs9d", 0, []int64{12, 11, 10, 9, 7}},
	{"2c3d4h6sAc", 0, []int64{12, 4, 2, 1, 0}},
	{"2c3d4hKsAc", 0, []int64{12, 11, 2, 1, 0}},
	{"2c3dQhKsAc", 0, []int64{12, 11, 10, 1, 0}},
	{"2cJdQhKsAc", 0, []int64{12, 11, 10, 9, 0}},
	{"3c4d5h6sAc", 0, []int64{12, 4, 3, 2, 1}},
	{"2c3d4h5sKc", 0, []int64{11, 3, 2, 1, 0}},
	{"2c2d3h4s5c", 1, []int64{0, 0, 3, 2, 1}},
	{"AcAdKhQsJc", 1, []int64{12, 12, 11, 10, 9}},
	{"7c2dAh7s9c", 1, []int64{5, 5, 12, 7, 0}},
	{"AcAd2h3s4c", 1, []int64{12, 12, 2, 1, 0}},
	{"5h5s2c3dAc", 1, []int64{3, 3, 12, 1, 0}},
	{"2c2d3h3s4c", 2, []int64{1, 1, 0, 0, 2}},
	{"2c2dAh3s3c", 2, []int64{1, 1, 0, 0, 12}},
	{"AcAdKhKs2c", 2, []int64{12, 12, 11, 11, 0}},
	{"9cTd9hTsJc", 2, []int64{8, 8, 7, 7, 9}},
	{"2c2d2h3s4c", 3, []int64{0, 0, 0, 2, 1}},
	{"2c2d2hAsKc", 3, []int64{0, 0, 0, 12, 11}},
	{"3cAdAh2sAc", 3, []int64{12, 12, 12, 1, 0}},
	{"5c4d3h2sAc", 4, []int64{3, 2, 1, 0, 12}},
	{"Ah2h3h4h5s", 4, []int64{3, 2, 1, 0, 12}},
	{"2c3d4h5s6c", 4, []int64{4, 3, 2, 1, 0}},
	{"8c9dThJsQc", 4, []int64{10, 9, 8, 7, 6}},
	{"AsKsQsJsTd", 4, []int64{12, 11, 10, 9, 8}},
	{"2s3s4s5s7s", 5, []int64{5, 3, 2, 1, 0}},
	{"AhKhQhJh9h", 5, []int64{12, 11, 10, 9, 7}},
	{"2dKdAd3dQd", 5, []int64{12, 11, 10, 1, 0}},
	{"3d4d5d6dAd", 5, []int64{12, 4, 3, 2, 1}},
	{"2c2d2h3s3c", 6, []int64{0, 0, 0, 1, 1}},
	{"3c3d3h2s2c", 6, []int64{1, 1, 1, 0, 0}},
	{"Ac2dAh2s2c", 6, []int64{0, 0, 0, 12, 12}},
	{"AcKdAhKsAs", 6, []int64{12, 12, 12, 11, 11}},
	{"2c2d2h2sAc", 7, []int64{0, 0, 0, 0, 12}},
	{"2cAdAhAsAc", 7, []int64{12, 12, 12, 12, 0}},
	{"9c8d9h9s9d", 7, []int64{7, 7, 7, 7, 6}},
	{"5c4c3c2cAc", 8, []int64{3, 2, 1, 0, 12}},
	{"2s3s4s5s6s", 8, []int64{4, 3, 2, 1, 0}},
	{"Td9d8d7dJd", 8, []int64{9, 8, 7, 6, 5}},
	{"AsKsQsJsTs", 8, []int64{12, 11, 10, 9, 8}},
}

// ranksAs has, for each rank, how often it occurs, and whether all cards have the same suit.
func ranksAs(five []int64) (counts [13]int, oneSuit bool) {
	oneSuit = true
	for _, card := range five {
		counts[card>>2]++
		oneSuit = oneSuit && card&3 == five[0]&3
	}
	return counts, oneSuit
}

// kickersAs counts the ranks down for each frequency.
func kickersAs(counts [13]int) []int64 {
	kickers := make([]int64, 0, 5)
	for times := 4; times > 0; times-- {
		for rank := 12; rank >= 0; rank-- {
			for range counts[rank] {
				if counts[rank] == times {
					kickers = append(kickers, int64(rank))
				}
			}
		}
	}
	return kickers
}

// straightAs looks for ten patterns of bits; it returns the highest rank of a straight, or -1.
func straightAs(counts [13]int) int64 {
	pattern := uint(0)
	for rank, count := range counts {
		if count > 0 {
			pattern |= 1 << rank
		}
	}
	if pattern == 0b1000000001111 {
		return 3
	}
	for lowest := range 9 {
		if pattern == 0b11111<<lowest {
			return int64(lowest + 4)
		}
	}
	return -1
}

// highAs returns the category and the kickers of five cards by another way than the program's.
func highAs(five []int64) (int64, []int64) {
	counts, oneSuit := ranksAs(five)
	kickers := kickersAs(counts)
	if highest := straightAs(counts); highest >= 0 {
		if highest == 3 {
			kickers = []int64{3, 2, 1, 0, 12}
		}
		if oneSuit {
			return 8, kickers
		}
		return 4, kickers
	}
	pairs := 0
	for i, a := range five {
		for _, b := range five[:i] {
			if a>>2 == b>>2 {
				pairs++
			}
		}
	}
	// Five cards have 0, 1, 2, 3, 4 or 6 pairs of cards with the same rank.
	category := map[int]int64{0: 0, 1: 1, 2: 2, 3: 3, 4: 6, 6: 7}[pairs]
	if oneSuit {
		category = 5
	}
	return category, kickers
}

// valueAs puts a category and kickers together by the factors of the document.
func valueAs(category int64, kickers []int64) int64 {
	return 371293*category + 28561*kickers[0] + 2197*kickers[1] + 169*kickers[2] + 13*kickers[3] + kickers[4]
}

// bestAs looks at all sets of five indices, and returns the greatest value and the lexicographically
// smallest indices that have it.
func bestAs(list []int64) (int64, []int64) {
	best, bestIndices := int64(-1), []int(nil)
	for set := range uint(1) << len(list) {
		if bits.OnesCount(set) != 5 {
			continue
		}
		var indices []int
		for i := range list {
			if set>>i&1 == 1 {
				indices = append(indices, i)
			}
		}
		value := valueAs(highAs(elementsAt(list, indices)))
		if value > best || value == best && slices.Compare(indices, bestIndices) < 0 {
			best, bestIndices = value, indices
		}
	}
	return best, elementsAt(list, bestIndices)
}

func elementsAt(list []int64, indices []int) []int64 {
	var elements []int64
	for _, i := range indices {
		elements = append(elements, list[i])
	}
	return elements
}

// orders returns all orders of a list.
func orders(list []int64) [][]int64 {
	if len(list) == 0 {
		return [][]int64{nil}
	}
	var result [][]int64
	for i, first := range list {
		rest := slices.Delete(slices.Clone(list), i, i+1)
		for _, order := range orders(rest) {
			result = append(result, append([]int64{first}, order...))
		}
	}
	return result
}

// evaluatedLists are lists of five to eight cards: the known hands alone and with further cards,
// lists with many equal ranks, suits or straights, and random ones.
func evaluatedLists() [][]int64 {
	var lists [][]int64
	source := rand.New(rand.NewSource(4))
	for _, hand := range knownHands {
		for more := range 4 {
			list := cardsWithText(hand.text)
			for _, i := range source.Perm(52) {
				if card := int64(i); len(list) < 5+more && !slices.Contains(list, card) {
					list = append(list, card)
				}
			}
			source.Shuffle(len(list), func(i, j int) { list[i], list[j] = list[j], list[i] })
			lists = append(lists, list)
		}
	}
	for _, part := range cardParts() {
		for round := range 60 {
			source.Shuffle(len(part), func(i, j int) { part[i], part[j] = part[j], part[i] })
			lists = append(lists, slices.Clone(part[:5+round%4]))
		}
	}
	return lists
}

// cardParts are parts of the deck from which good hands are often drawn.
func cardParts() [][]int64 {
	deck := wholeDeck()
	parts := [][]int64{deck, deck[:12], deck[40:], deck[12:32], append(slices.Clone(deck[:16]), deck[48:]...), deck[32:]}
	for suit := range 4 {
		var part []int64
		for card := suit; card < 52; card += 4 {
			part = append(part, deck[card])
		}
		parts = append(parts, part)
	}
	for i, part := range parts {
		parts[i] = slices.Clone(part)
	}
	return parts
}

// wrongLists are lists that are not lists of cards with a number of elements from least to most.
func wrongLists(least, most int) [][]int64 {
	deck := wholeDeck()
	lists := append(invalidLists(), deck)
	if least > 0 {
		lists = append(lists, nil, []int64{})
	}
	for length := 1; length <= 12; length++ {
		if length < least || length > most {
			lists = append(lists, slices.Clone(deck[20:20+length]))
			continue
		}
		for place := range length {
			wrongs := slices.Clone(noCards)
			if length > 1 {
				wrongs = append(wrongs, deck[20+(place+1)%length], deck[20+(place+length-1)%length])
			}
			for _, wrong := range wrongs {
				changed := slices.Clone(deck[20 : 20+length])
				changed[place] = wrong
				lists = append(lists, changed)
			}
		}
	}
	return lists
}

func TestHighConstants(t *testing.T) {
	got := []int64{impl.HighCard, impl.OnePair, impl.TwoPairs, impl.Triple, impl.Straight, impl.Flush, impl.FullHouse,
		impl.Quadruple, impl.StraightFlush, impl.MaxEvaluate}
	if !slices.Equal(got, []int64{0, 1, 2, 3, 4, 5, 6, 7, 8, 8}) {
		t.Error("the constants are", got)
	}
}

// checkHand compares all three functions of five cards with what they are to return.
func checkHand(t *testing.T, five []int64, category int64, kickers []int64) {
	t.Helper()
	if got, code := impl.CategoryOf(five); got != category || code != impl.ErrNone {
		t.Error("CategoryOf of", textOf(five), "is", got, code)
	}
	if got, code := impl.KickersOf(five); !slices.Equal(got, kickers) || code != impl.ErrNone {
		t.Error("KickersOf of", textOf(five), "is", got, code)
	}
	if got, code := impl.HighValue(five); got != valueAs(category, kickers) || code != impl.ErrNone {
		t.Error("HighValue of", textOf(five), "is", got, code)
	}
}

func TestKnownHandsInAllOrders(t *testing.T) {
	for _, hand := range knownHands {
		for _, five := range orders(cardsWithText(hand.text)) {
			checkHand(t, five, hand.category, hand.kickers)
			if got, code := impl.BestHigh(five); got != valueAs(hand.category, hand.kickers) || code != impl.ErrNone {
				t.Error("BestHigh of", textOf(five), "is", got, code)
			}
		}
	}
}

func TestSomeHighValues(t *testing.T) {
	for text, want := range map[string]int64{
		"7c5d4h3s2c": 149747, "AcAdKhQsJc": 742387, "5c4d3h2sAc": 1575430, "2c3d4h5s6c": 1606358,
		"5c4c3c2cAc": 3060602, "AsKsQsJsTs": 3339058, "2c2d2h2s3c": 2599052, "AcAdAhAsKc": 2970342,
	} {
		five := cardsWithText(text)
		if category, kickers := highAs(five); valueAs(category, kickers) != want {
			t.Error("the tests' own value of", text, "is", valueAs(category, kickers))
		}
		if got, code := impl.HighValue(five); got != want || code != impl.ErrNone {
			t.Error("HighValue of", text, "is", got, code)
		}
	}
}

// All sets of five cards are looked at, each in an order that depends on its cards.
func TestAllHands(t *testing.T) {
	sizes := make([]int64, 9)
	for a := range int64(52) {
		for b := range a {
			for c := range b {
				for d := range c {
					for e := range d {
						five := [][]int64{{a, b, c, d, e}, {c, a, e, b, d}, {e, d, c, b, a}}[(a+b+c+d+e)%3]
						category, kickers := highAs(five)
						checkHand(t, five, category, kickers)
						sizes[category]++
					}
				}
			}
		}
		if t.Failed() {
			t.FailNow()
		}
	}
	sum := int64(0)
	for category, want := range sizes {
		got, code := impl.CategorySize(int64(category))
		if got != want || code != impl.ErrNone {
			t.Error("CategorySize of", category, "is", got, code, "and not", want)
		}
		sum += got
	}
	if sum != 2598960 {
		t.Error("all categories together have", sum, "hands")
	}
}

func TestCategoryNamesAndSizes(t *testing.T) {
	names := []string{"high card", "pair", "two pairs", "three of a kind", "straight", "flush", "full house",
		"four of a kind", "straight flush"}
	sizes := []int64{1302540, 1098240, 123552, 54912, 10200, 5108, 3744, 624, 40}
	for category, want := range sizes {
		if got := impl.CategoryName(int64(category)); got != names[category] {
			t.Error("CategoryName of", category, "is", got)
		}
		if got, code := impl.CategorySize(int64(category)); got != want || code != impl.ErrNone {
			t.Error("CategorySize of", category, "is", got, code)
		}
	}
	for _, wrong := range []int64{-1, 9, 10, -9, 255, 256, 1 << 32, 1<<32 + 8, -1 << 32, math.MaxInt64, math.MinInt64} {
		if got := impl.CategoryName(wrong); got != "" {
			t.Error("CategoryName of", wrong, "is", got)
		}
		if got, code := impl.CategorySize(wrong); got != 0 || code != impl.ErrRange {
			t.Error("CategorySize of", wrong, "is", got, code)
		}
	}
}

func TestBestOfFiveToEight(t *testing.T) {
	for _, list := range evaluatedLists() {
		value, five := bestAs(list)
		if got, code := impl.BestHigh(list); got != value || code != impl.ErrNone {
			t.Error("BestHigh of", textOf(list), "is", got, code, "and not", value)
		}
		if got, code := impl.BestFive(list); !slices.Equal(got, five) || code != impl.ErrNone {
			t.Error("BestFive of", textOf(list), "is", textOf(got), code, "and not", textOf(five))
		}
	}
}

// Of several choices with the greatest value, the one with the smallest indices counts, whatever its
// cards are.
func TestBestFiveOfSeveral(t *testing.T) {
	for _, c := range [][2]string{
		{"AsKsQsJsTs", "AsKsQsJsTs"},
		{"TsJsQsKsAs", "TsJsQsKsAs"},
		{"2c3dAcAdKhQsJc", "AcAdKhQsJc"},
		{"AcKdQhJsTcTd", "AcKdQhJsTc"},
		{"TdTcAcKdQhJs", "TdAcKdQhJs"},
		{"AcAdKhQsJcTcTd", "AcKhQsJcTc"},
		{"AdAcTdTcKhQsJc", "AdTdKhQsJc"},
		{"2s2h2d2c3c3d3h3s", "2s3c3d3h3s"},
		{"3c2s3d2h3h2d3s2c", "3c2s3d3h3s"},
		{"AcAdKcKdQcQdJc", "AcAdKcKdQc"},
		{"AcQcAdQdKcKdJc", "AcQcAdKcKd"},
		{"JcQdQcKdKcAdAc", "QdKdKcAdAc"},
		{"2c2d2h3c3d3h4s", "2c2d3c3d3h"},
		{"9s9h9d9c8s7s6s5s", "9s8s7s6s5s"},
		{"9h9d9s9c8s7s6s5d", "9h9d9s9c8s"},
		{"5dAc4c3c2c6d7h8h", "5d4c6d7h8h"},
		{"2c3c4c5c6c7c8c9c", "5c6c7c8c9c"},
		{"AdAh2c3c4c5sKd", "Ad2c3c4c5s"},
		{"7h2s4d6c3h5c4h", "7h4d6c3h5c"},
	} {
		got, code := impl.BestFive(cardsWithText(c[0]))
		if textOf(got) != c[1] || code != impl.ErrNone {
			t.Error("BestFive of", c[0], "is", textOf(got), code)
		}
		value, code := impl.BestHigh(cardsWithText(c[0]))
		if five, fiveCode := impl.HighValue(got); value != five || code != impl.ErrNone || fiveCode != impl.ErrNone {
			t.Error("BestHigh of", c[0], "is", value, code, "and of its best five", five, fiveCode)
		}
	}
}

func TestOrderDoesNotMatter(t *testing.T) {
	source := rand.New(rand.NewSource(44))
	for _, list := range evaluatedLists() {
		want, code := impl.BestHigh(list)
		if code != impl.ErrNone {
			t.Fatal("BestHigh of", textOf(list), "is", want, code)
		}
		for range 10 {
			other := slices.Clone(list)
			source.Shuffle(len(other), func(i, j int) { other[i], other[j] = other[j], other[i] })
			if got, code := impl.BestHigh(other); got != want || code != impl.ErrNone {
				t.Error("BestHigh of", textOf(other), "is", got, code, "and of", textOf(list), want)
			}
		}
	}
}

func TestMoreCardsAreNeverWorse(t *testing.T) {
	better := 0
	for _, list := range evaluatedLists() {
		all, _ := impl.BestHigh(list)
		for i := range list {
			fewer := slices.Delete(slices.Clone(list), i, i+1)
			if len(fewer) < 5 {
				continue
			}
			value, code := impl.BestHigh(fewer)
			if value > all || code != impl.ErrNone {
				t.Error("BestHigh of", textOf(fewer), "is", value, code, "and of", textOf(list), all)
			}
			if value < all {
				better++
			}
		}
	}
	if better == 0 {
		t.Error("more cards are never better")
	}
}

func TestCompareHigh(t *testing.T) {
	lists := evaluatedLists()
	seen := map[int64]int{}
	for i, a := range lists {
		valueOfA, _ := bestAs(a)
		for _, b := range [][]int64{a, lists[(i+1)%len(lists)], lists[(i*7+3)%len(lists)]} {
			valueOfB, _ := bestAs(b)
			want := int64(cmp.Compare(valueOfA, valueOfB))
			seen[want]++
			if got, code := impl.CompareHigh(a, b); got != want || code != impl.ErrNone {
				t.Error("CompareHigh of", textOf(a), textOf(b), "is", got, code)
			}
			if got, code := impl.CompareHigh(b, a); got != -want || code != impl.ErrNone {
				t.Error("CompareHigh of", textOf(b), textOf(a), "is", got, code)
			}
		}
	}
	if seen[-1] == 0 || seen[0] == 0 || seen[1] == 0 {
		t.Error("the results were", seen)
	}
}

func TestCompareKnownHands(t *testing.T) {
	for _, c := range []struct {
		texts string
		want  int64
	}{
		{"5c4d3h2sAc AcAdKhQsJc", 1}, {"5c4d3h2sAc 6c5d4h3s2c", -1}, {"5c4c3c2cAc AcAdAhAsKc", 1},
		{"AsKsQsJsTs AhKhQhJhTh", 0}, {"AcKdQhJsTc AcKdQhJsTc2d3d4d", 0}, {"AcAdKhQsJc AhAsKhQsJc", 0},
		{"AcAdKhQsJc AhAsKhQs9c", 1}, {"AcAd2h2s3c KcKdQhQsAh", 1}, {"2c2d2h2s3c AcAdAhKsKc", 1},
		{"7c5d4h3s2c 7d5c4s3h2s", 0}, {"7c5d4h3s2c 8c5d4h3s2c9d", -1}, {"2c2d2hAsKc AcAdKhQsJc2c2d", 1},
	} {
		a, b, _ := strings.Cut(c.texts, " ")
		if got, code := impl.CompareHigh(cardsWithText(a), cardsWithText(b)); got != c.want || code != impl.ErrNone {
			t.Error("CompareHigh of", c.texts, "is", got, code)
		}
	}
}

func TestValueParts(t *testing.T) {
	value := int64(0)
	for category := range int64(9) {
		for kickers := range int64(371293) {
			want := []int64{kickers / 28561, kickers / 2197 % 13, kickers / 169 % 13, kickers / 13 % 13, kickers % 13}
			got, list, code := impl.ValueParts(value)
			if got != category || !slices.Equal(list, want) || code != impl.ErrNone {
				t.Fatal("ValueParts of", value, "is", got, list, code)
			}
			value++
		}
	}
	if value != 3341637 {
		t.Error("the last value is", value-1)
	}
	for _, c := range [][]int64{{0, 0, 0, 0, 0, 0, 0}, {3341636, 8, 12, 12, 12, 12, 12}, {742387, 1, 12, 12, 11, 10, 9}} {
		if got, list, code := impl.ValueParts(c[0]); got != c[1] || !slices.Equal(list, c[2:]) || code != impl.ErrNone {
			t.Error("ValueParts of", c[0], "is", got, list, code)
		}
	}
	for _, wrong := range []int64{-1, 3341637, -13, 3341638, 3712930, 1 << 32, 1<<32 + 7, math.MaxInt64, math.MinInt64} {
		if got, list, code := impl.ValueParts(wrong); got != 0 || len(list) != 0 || code != impl.ErrRange {
			t.Error("ValueParts of", wrong, "is", got, list, code)
		}
	}
}

func TestValuePartsOfHands(t *testing.T) {
	for _, hand := range knownHands {
		value, code := impl.HighValue(cardsWithText(hand.text))
		if code != impl.ErrNone {
			t.Fatal("HighValue of", hand.text, "is", value, code)
		}
		category, kickers, code := impl.ValueParts(value)
		if category != hand.category || !slices.Equal(kickers, hand.kickers) || code != impl.ErrNone {
			t.Error("ValueParts of", hand.text, "are", category, kickers, code)
		}
	}
}

func TestHandsThatAreNone(t *testing.T) {
	for _, list := range wrongLists(5, 5) {
		if got, code := impl.HighValue(list); got != 0 || code != impl.ErrInvalid {
			t.Error("HighValue of", list, "is", got, code)
		}
		if got, code := impl.CategoryOf(list); got != 0 || code != impl.ErrInvalid {
			t.Error("CategoryOf of", list, "is", got, code)
		}
		if got, code := impl.KickersOf(list); len(got) != 0 || code != impl.ErrInvalid {
			t.Error("KickersOf of", list, "is", got, code)
		}
	}
	good := cardsWithText("AcKdQhJsTc2d")
	for _, list := range wrongLists(5, 8) {
		if got, code := impl.BestHigh(list); got != 0 || code != impl.ErrInvalid {
			t.Error("BestHigh of", list, "is", got, code)
		}
		if got, code := impl.BestFive(list); len(got) != 0 || code != impl.ErrInvalid {
			t.Error("BestFive of", list, "is", got, code)
		}
		for _, pair := range [][2][]int64{{list, good}, {good, list}, {list, list}} {
			if got, code := impl.CompareHigh(pair[0], pair[1]); got != 0 || code != impl.ErrInvalid {
				t.Error("CompareHigh of", pair, "is", got, code)
			}
		}
	}
}

func TestHighArgumentsStay(t *testing.T) {
	for _, list := range append(evaluatedLists(), wrongLists(5, 8)...) {
		kept := guarded(list)
		impl.HighValue(kept)
		impl.CategoryOf(kept)
		impl.KickersOf(kept)
		impl.BestHigh(kept)
		impl.BestFive(kept)
		impl.CompareHigh(kept, kept)
		if !sameAsGuarded(kept, list) {
			t.Error(list, "has become", kept[:len(list)+3])
		}
	}
}

func TestHighResultsAreNew(t *testing.T) {
	for _, hand := range knownHands {
		list := cardsWithText(hand.text)
		kept := guarded(list)
		for name, call := range map[string]func() []int64{
			"KickersOf":  func() []int64 { got, _ := impl.KickersOf(kept); return got },
			"BestFive":   func() []int64 { got, _ := impl.BestFive(kept); return got },
			"ValueParts": func() []int64 { _, got, _ := impl.ValueParts(valueAs(hand.category, hand.kickers)); return got },
		} {
			if !givesNewLists(call) || !sameAsGuarded(kept, list) {
				t.Error(name, "of", hand.text, "shares memory")
			}
		}
	}
}
