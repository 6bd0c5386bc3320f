package tests

import (
	"math"
	"math/rand"
	"slices"
	"strings"
	"testing"

	"loop.example/g00910/impl"
)

// allTexts has the texts of all cards in the order of their numbers, written out so that no rule of
// the program is repeated.
const allTexts = "2c2d2h2s3c3d3h3s4c4d4h4s5c5d5h5s6c6d6h6s7c7d7h7s8c8d8h8s9c9d9h9s" +
	"TcTdThTsJcJdJhJsQcQdQhQsKcKdKhKsAcAdAhAs"

// noCards are numbers that are no cards, also ones that would be cards if only some bits counted.
var noCards = []int64{-1, -2, -4, -52, 52, 53, 56, 63, 64, 104, 116, 255, 256, 1<<16 + 1, 1<<32 + 5,
	-1 << 32, 1<<63 - 64, math.MaxInt64, math.MinInt64, math.MinInt64 + 5}

// wholeDeck returns all cards in increasing order.
func wholeDeck() []int64 {
	list := make([]int64, impl.CardCount)
	for i := range list {
		list[i] = int64(i)
	}
	return list
}

// textOf joins the texts of cards from allTexts.
func textOf(list []int64) string {
	var text strings.Builder
	for _, card := range list {
		text.WriteString(allTexts[2*card : 2*card+2])
	}
	return text.String()
}

// cardLists are lists of cards of all lengths: none, each single card, all pairs, and random ones.
func cardLists() [][]int64 {
	lists := [][]int64{nil, {}, wholeDeck()}
	for a := int64(0); a < impl.CardCount; a++ {
		lists = append(lists, []int64{a})
		for b := int64(0); b < impl.CardCount; b++ {
			if a != b {
				lists = append(lists, []int64{a, b})
			}
		}
	}
	source := rand.New(rand.NewSource(2))
	for round := range 20 * (impl.CardCount + 1) {
		deck := wholeDeck()
		source.Shuffle(len(deck), func(i, j int) { deck[i], deck[j] = deck[j], deck[i] })
		lists = append(lists, deck[:round%(impl.CardCount+1)])
	}
	return lists
}

// invalidLists have a number that is no card, or a card twice, at the beginning, inside or at the end.
func invalidLists() [][]int64 {
	deck := wholeDeck()
	lists := [][]int64{{0, 0}, {51, 51}, {7, 8, 7}, {8, 7, 7}, {7, 7, 8}, {3, 52}, {52, 52}, {-1, -1},
		append(slices.Clone(deck), 0), append(slices.Clone(deck), 51), append(slices.Clone(deck), deck...),
		make([]int64, 1000)}
	for _, wrong := range noCards {
		lists = append(lists, []int64{wrong}, []int64{wrong, 0}, []int64{0, wrong}, []int64{5, wrong, 6},
			append(slices.Clone(deck), wrong), append([]int64{wrong}, deck...), append(slices.Clone(deck[1:]), wrong))
	}
	for place := range deck {
		twice := slices.Clone(deck)
		twice[place] = deck[(place+1)%len(deck)]
		lists = append(lists, twice)
	}
	return lists
}

// guarded returns a copy of the list with known numbers in its spare capacity.
func guarded(list []int64) []int64 {
	long := append(slices.Clone(list), 77, 78, 79)
	return long[:len(list)]
}

// sameAsGuarded reports whether the list and its spare capacity are as guarded made them.
func sameAsGuarded(kept []int64, list []int64) bool {
	return slices.Equal(kept[:len(list)+3], append(slices.Clone(list), 77, 78, 79))
}

func TestCardConstants(t *testing.T) {
	if impl.CardCount != 52 || impl.RankCount != 13 || impl.SuitCount != 4 {
		t.Error("the constants are", int64(impl.CardCount), int64(impl.RankCount), int64(impl.SuitCount))
	}
}

func TestRankAndSuitOfAllCards(t *testing.T) {
	card := int64(0)
	for wantRank := int64(0); wantRank < 13; wantRank++ {
		for wantSuit := int64(0); wantSuit < 4; wantSuit++ {
			if rank, code := impl.RankOf(card); rank != wantRank || code != impl.ErrNone {
				t.Error("RankOf of", card, "is", rank, code)
			}
			if suit, code := impl.SuitOf(card); suit != wantSuit || code != impl.ErrNone {
				t.Error("SuitOf of", card, "is", suit, code)
			}
			if got, code := impl.CardOf(wantRank, wantSuit); got != card || code != impl.ErrNone {
				t.Error("CardOf of", wantRank, wantSuit, "is", got, code)
			}
			card++
		}
	}
}

func TestRankAndSuitOfNoCards(t *testing.T) {
	for _, wrong := range noCards {
		if rank, code := impl.RankOf(wrong); rank != 0 || code != impl.ErrRange {
			t.Error("RankOf of", wrong, "is", rank, code)
		}
		if suit, code := impl.SuitOf(wrong); suit != 0 || code != impl.ErrRange {
			t.Error("SuitOf of", wrong, "is", suit, code)
		}
	}
}

func TestCardOfOutsideItsRanges(t *testing.T) {
	wrongRanks := []int64{-1, -13, 13, 14, 52, 1<<32 + 1, 1 << 62, math.MaxInt64, math.MinInt64}
	wrongSuits := []int64{-1, -4, 4, 5, 51, 1<<32 + 1, math.MaxInt64, math.MinInt64}
	reject := func(rank, suit int64) {
		if card, code := impl.CardOf(rank, suit); card != 0 || code != impl.ErrRange {
			t.Error("CardOf of", rank, suit, "is", card, code)
		}
	}
	for _, rank := range wrongRanks {
		for suit := int64(0); suit < 4; suit++ {
			reject(rank, suit)
		}
		for _, suit := range wrongSuits {
			reject(rank, suit)
		}
	}
	for _, suit := range wrongSuits {
		for rank := int64(0); rank < 13; rank++ {
			reject(rank, suit)
		}
	}
}

func TestAreCards(t *testing.T) {
	for _, list := range cardLists() {
		if !impl.AreCards(list) {
			t.Error(list, "are cards")
		}
	}
	for _, list := range invalidLists() {
		if impl.AreCards(list) {
			t.Error(list, "are no cards")
		}
	}
}

func TestCardsAreRecovered(t *testing.T) {
	for _, list := range cardLists() {
		want := textOf(list)
		text, code := impl.CardsText(list)
		if text != want || code != impl.ErrNone {
			t.Error("CardsText of", list, "is", text, code)
		}
		got, code := impl.ReadCards(want)
		if !slices.Equal(got, list) || code != impl.ErrNone {
			t.Error("ReadCards of", want, "is", got, code)
		}
	}
	if text, code := impl.CardsText([]int64{50, 0}); text != "Ah2c" || code != impl.ErrNone {
		t.Error("CardsText of the example is", text, code)
	}
}

func TestCardsTextOfNoCards(t *testing.T) {
	for _, list := range invalidLists() {
		if text, code := impl.CardsText(list); text != "" || code != impl.ErrInvalid {
			t.Error("CardsText of", list, "is", text, code)
		}
	}
}

func rejectText(t *testing.T, s string) {
	t.Helper()
	if got, code := impl.ReadCards(s); len(got) != 0 || code != impl.ErrSyntax {
		t.Errorf("ReadCards of %q is %v %d", s, got, code)
	}
}

func TestReadCardsRejects(t *testing.T) {
	for _, s := range []string{
		"A", "s", "Ah2", "Ah2cK", "hA", "cdhs", "AK", "ss", "10c", "1c", "0c", "0", "52", "Tc9", "XX", "??", "ax",
		"as", "AS", "aS", "AH", "tC", "Tc9C", "9cTC", "kd", "Kd7Dqs", "Kdqs", "tcjdqhks",
		"AsAs", "2c2c", "Ah2cAh", "2cAhAh", "AhAh2c", "AhKh\x00\x00", "\x00\x00", "A\x00", "\x00h", "A\xff", "\xffh",
		" Ah", "Ah ", "Ah 2c", "Ah 2c ", " A h", "Ah,2c", "Ah\n", "\n", "\n\n", "  ", " ", "\t\t", "[]", "[Ah]",
		"A♥", "♥A", "\u0391\u0441", "Ａｈ", "é", "𝔸", "2c2d2h2s3",
		allTexts + "2c", allTexts + "As", allTexts + "A", allTexts + " ", allTexts + allTexts, allTexts + "??", allTexts + "1c",
		strings.Repeat("Ah", 1000), strings.Repeat("A", 999), strings.Repeat("x", 1000), strings.Repeat(" ", 1000),
	} {
		rejectText(t, s)
	}
	if got, code := impl.ReadCards(""); len(got) != 0 || code != impl.ErrNone {
		t.Error("ReadCards of the empty string is", got, code)
	}
}

// Every string of two bytes is tried, alone and behind and before another card.
func TestReadCardsOfAllBytePairs(t *testing.T) {
	numbers := map[string]int64{}
	for card := range int64(impl.CardCount) {
		numbers[allTexts[2*card:2*card+2]] = card
	}
	for first := range 256 {
		rejectText(t, string([]byte{byte(first)}))
		for second := range 256 {
			s := string([]byte{byte(first), byte(second)})
			card, known := numbers[s]
			if !known {
				rejectText(t, s)
				rejectText(t, "9d"+s)
				rejectText(t, s+"9d")
				continue
			}
			if got, code := impl.ReadCards(s); !slices.Equal(got, []int64{card}) || code != impl.ErrNone {
				t.Error("ReadCards of", s, "is", got, code)
			}
		}
	}
}

// The text of all cards with one byte left out, doubled or changed is no text: what becomes another
// card is there twice.
func TestReadCardsOfChangedTexts(t *testing.T) {
	for i := range allTexts {
		rejectText(t, allTexts[:i]+allTexts[i+1:])
		rejectText(t, allTexts[:i]+allTexts[i:i+1]+allTexts[i:])
		for _, c := range "23456789TJQKAcdhstjqkaCDHS01 " {
			if changed := allTexts[:i] + string(c) + allTexts[i+1:]; changed != allTexts {
				rejectText(t, changed)
			}
		}
	}
}

func TestCardsAndOtherCardsAreAllCards(t *testing.T) {
	for _, list := range cardLists() {
		var want []int64
		for card := range int64(impl.CardCount) {
			if !slices.Contains(list, card) {
				want = append(want, card)
			}
		}
		got, code := impl.OtherCards(list)
		if !slices.Equal(got, want) || code != impl.ErrNone {
			t.Error("OtherCards of", list, "is", got, code)
		}
		back, code := impl.OtherCards(got)
		if together := append(slices.Clone(got), back...); code != impl.ErrNone || len(together) != 52 || !impl.AreCards(together) {
			t.Error("the others of", got, "are", back, code)
		}
	}
}

func TestRanksAndSuitsIn(t *testing.T) {
	for _, list := range cardLists() {
		wantRanks, wantSuits := make([]int64, 13), make([]int64, 4)
		for _, card := range list {
			wantRanks[strings.IndexByte("23456789TJQKA", allTexts[2*card])]++
			wantSuits[strings.IndexByte("cdhs", allTexts[2*card+1])]++
		}
		if got, code := impl.RanksIn(list); !slices.Equal(got, wantRanks) || code != impl.ErrNone {
			t.Error("RanksIn of", list, "is", got, code)
		}
		if got, code := impl.SuitsIn(list); !slices.Equal(got, wantSuits) || code != impl.ErrNone {
			t.Error("SuitsIn of", list, "is", got, code)
		}
	}
}

// listFunctions are the functions of chapter 2 that return a list for a list.
func listFunctions() map[string]func([]int64) ([]int64, int64) {
	return map[string]func([]int64) ([]int64, int64){
		"OtherCards": impl.OtherCards, "RanksIn": impl.RanksIn, "SuitsIn": impl.SuitsIn,
	}
}

func TestListsOfNoCards(t *testing.T) {
	for name, function := range listFunctions() {
		for _, list := range invalidLists() {
			if got, code := function(list); len(got) != 0 || code != impl.ErrInvalid {
				t.Error(name, "of", list, "is", got, code)
			}
		}
	}
}

func TestCardArgumentsStay(t *testing.T) {
	for _, list := range append(cardLists(), invalidLists()...) {
		kept := guarded(list)
		impl.AreCards(kept)
		impl.CardsText(kept)
		for _, function := range listFunctions() {
			function(kept)
		}
		if !sameAsGuarded(kept, list) {
			t.Error(list, "has become", kept[:len(list)+3])
		}
	}
}

// overwrite changes a result and the spare capacity behind it.
func overwrite(list []int64) {
	for i := range list[:cap(list)] {
		list[:cap(list)][i] = -99
	}
}

// givesNewLists reports whether a call returns the same list each time, in memory of its own.
func givesNewLists(call func() []int64) bool {
	first := call()
	want := slices.Clone(first)
	overwrite(call())
	// A further call could restore what they share, so the first list is looked at before it.
	return slices.Equal(first, want) && slices.Equal(call(), want)
}

func TestCardResultsAreNew(t *testing.T) {
	for _, list := range [][]int64{nil, {50, 0}, {0, 4, 8, 12}, wholeDeck()} {
		kept := guarded(list)
		for name, function := range listFunctions() {
			call := func() []int64 {
				got, _ := function(kept)
				return got
			}
			if !givesNewLists(call) || !sameAsGuarded(kept, list) {
				t.Error(name, "of", list, "shares memory")
			}
		}
	}
	for _, s := range []string{"As", "Ah2c", allTexts} {
		call := func() []int64 {
			got, _ := impl.ReadCards(s)
			return got
		}
		if !givesNewLists(call) {
			t.Error("ReadCards of", s, "shares memory")
		}
	}
}
