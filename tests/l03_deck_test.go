package tests

import (
	"math"
	"math/big"
	"math/bits"
	"math/rand"
	"slices"
	"testing"

	"loop.example/g00910/impl"
)

// The prime and the factor of the seeds, written out so that no constant of the program is repeated.
const (
	seedPrime  = 2147483647
	seedFactor = 48271
)

// shuffledTexts has the texts of shuffled decks, computed by another program in another language.
var shuffledTexts = map[int64]string{
	1: "4c7h2hTcJhAhKhAd5cTh6s6d6c7d3h8d5h9cAc3s4sKsQhQdTs8hQsTd" +
		"4hQc7s3c8c5d9dKc2c2s9h8s7cJdKd9s3dAs4d2d6hJcJs5s",
	2: "3cKcQsKsTs8h3h2c6d7hJc8c5c7c3d4d9dQcAsQd7dTdJsJd9c9sKdJh" +
		"5d2s5s4c5hTh2dAh6cAc4s3s2hTc7sKh4hAd6h6sQh8d8s9h",
	1234567890: "7sAsJhKs6d6sKd5dKh2sTd7d4h2cAc3d6c8h2d6h4c4d5hJd3cQhQc9d" +
		"7hTcJc9s5sAh7c9c4s9h5cTsJs8d2h8sQsThAd3h3sQd8cKc",
	2147483646: "ThKcAh9sAs5sQh3sTd7h3d8c7sAc2d6cJsKs2sQsKh2c5d3c9dJhQd2h" +
		"8h6d4d8s4h5c9c5h7dQc6s7c6h3hTsKdTcJcAd9h8d4sJd4c",
}

// noSeeds are numbers that are no seeds, also ones that would be seeds if only some bits counted.
var noSeeds = []int64{0, -1, -2, -48271, -2147483646, -2147483647, 2147483647, 2147483648, 2147483649, 4294967294,
	1<<32 + 1, 1<<33 + 7, -1<<32 + 1, math.MaxInt64, math.MinInt64, math.MinInt64 + 1}

// noCounts are numbers that are not in 0..52.
var noCounts = []int64{-1, -2, -52, 53, 54, 104, 256, 1 << 32, 1<<32 + 1, -1 << 32, math.MaxInt64, math.MaxInt64 - 51,
	math.MinInt64, math.MinInt64 + 52}

// sampleSeeds are the least and the greatest seeds, powers of two, and random ones.
func sampleSeeds() []int64 {
	seeds := []int64{1, 2, 3, 44488, 44489, 48271, 2147435376, 2147483645, 2147483646}
	for seed := int64(4); seed <= 1<<30; seed *= 2 {
		seeds = append(seeds, seed-1, seed, seed+1)
	}
	source := rand.New(rand.NewSource(3))
	for range 200 {
		seeds = append(seeds, 1+source.Int63n(2147483646))
	}
	return seeds
}

// seedAfter returns the seed after some steps, as a power of the factor and with integers of any size.
func seedAfter(seed int64, steps int64) int64 {
	prime := big.NewInt(seedPrime)
	power := new(big.Int).Exp(big.NewInt(seedFactor), big.NewInt(steps), prime)
	return power.Mul(power, big.NewInt(seed)).Mod(power, prime).Int64()
}

// sampleDecks are the sorted deck, the reversed one, ones that differ from them in two places, and
// random ones.
func sampleDecks() [][]int64 {
	reversed, first, last := wholeDeck(), wholeDeck(), wholeDeck()
	slices.Reverse(reversed)
	first[0], first[1] = first[1], first[0]
	last[50], last[51] = last[51], last[50]
	decks := [][]int64{wholeDeck(), reversed, first, last}
	source := rand.New(rand.NewSource(33))
	for range 20 {
		deck := wholeDeck()
		source.Shuffle(len(deck), func(i, j int) { deck[i], deck[j] = deck[j], deck[i] })
		decks = append(decks, deck)
	}
	return decks
}

// noDecks are lists of other lengths than 52, and lists of 52 numbers that are not all cards.
func noDecks() [][]int64 {
	deck := wholeDeck()
	lists := [][]int64{nil, {}, {0}, deck[:51], deck[1:], deck[:26], make([]int64, 52), make([]int64, 1000)}
	lists = append(lists, append(slices.Clone(deck), 52), append(slices.Clone(deck), deck...))
	lists = append(lists, invalidLists()...)
	for place := range deck {
		lists = append(lists, append(slices.Clone(deck), deck[place]), slices.Delete(slices.Clone(deck), place, place+1))
		for _, wrong := range noCards {
			changed := slices.Clone(deck)
			changed[place] = wrong
			lists = append(lists, changed)
		}
	}
	return lists
}

// deckCall is a call of a function that takes a deck and gives lists.
type deckCall struct {
	name string
	call func(deck []int64) ([][]int64, int64)
}

// single makes one list a list of lists; beside an error, an empty list is none.
func single(list []int64, code int64) ([][]int64, int64) {
	if len(list) == 0 && code != impl.ErrNone {
		return nil, code
	}
	return [][]int64{list}, code
}

// goodCalls are calls with numbers that are in their ranges, at both ends and inside.
func goodCalls() []deckCall {
	calls := []deckCall{
		{"RiffleDeck", func(deck []int64) ([][]int64, int64) { return single(impl.RiffleDeck(deck)) }},
		{"UnriffleDeck", func(deck []int64) ([][]int64, int64) { return single(impl.UnriffleDeck(deck)) }},
	}
	for _, n := range []int64{0, 1, 26, 51, 52} {
		calls = append(calls, cutCall(n), restCall(n))
	}
	for _, pair := range [][2]int64{{1, 0}, {1, 1}, {1, 52}, {2, 2}, {2, 26}, {9, 5}, {10, 0}, {10, 5}} {
		calls = append(calls, dealCall(pair[0], pair[1]))
	}
	return calls
}

// badCalls are calls with numbers that are not in their ranges.
func badCalls() []deckCall {
	var calls []deckCall
	for _, n := range noCounts {
		calls = append(calls, cutCall(n), restCall(n))
		for _, hands := range []int64{1, 2, 7, 10} {
			calls = append(calls, dealCall(hands, n))
		}
	}
	for _, hands := range []int64{0, -1, -10, 11, 12, 13, 26, 52, 1<<32 + 1, 1 << 62, math.MaxInt64, math.MinInt64} {
		for _, cards := range []int64{0, 1, 2, -1, 4, 5, 52, 1 << 62, math.MaxInt64, math.MinInt64} {
			calls = append(calls, dealCall(hands, cards))
		}
	}
	return append(calls, overflowingDeals()...)
}

// overflowingDeals are deals of too many cards: just one more for each hand than there can be, and
// numbers whose product with the hands is negative or at most 52 if it is cut off to 64 bits.
func overflowingDeals() []deckCall {
	var calls []deckCall
	for hands := uint64(1); hands <= 10; hands++ {
		for _, cards := range []int64{52/int64(hands) + 1, 53, 1 << 60, 1 << 61, 1 << 62} {
			calls = append(calls, dealCall(int64(hands), cards))
		}
		for high := uint64(1); high < hands; high++ {
			for low := range uint64(53) {
				cards, remainder := bits.Div64(high, low, hands)
				if remainder == 0 && cards <= math.MaxInt64 {
					calls = append(calls, dealCall(int64(hands), int64(cards)))
				}
			}
		}
	}
	return calls
}

func cutCall(n int64) deckCall {
	return deckCall{"CutDeck", func(deck []int64) ([][]int64, int64) { return single(impl.CutDeck(deck, n)) }}
}

func restCall(used int64) deckCall {
	return deckCall{"RestOfDeck", func(deck []int64) ([][]int64, int64) { return single(impl.RestOfDeck(deck, used)) }}
}

func dealCall(hands, cards int64) deckCall {
	return deckCall{"DealHands", func(deck []int64) ([][]int64, int64) { return impl.DealHands(deck, hands, cards) }}
}

func copyOf(lists [][]int64) [][]int64 {
	var result [][]int64
	for _, list := range lists {
		result = append(result, slices.Clone(list))
	}
	return result
}

func sameLists(a, b [][]int64) bool {
	return slices.EqualFunc(a, b, slices.Equal[[]int64])
}

// givesSeparateLists reports whether a call returns the same lists each time, and overwriting one of
// them changes neither the others, nor what another call has returned or will return.
func givesSeparateLists(call func() [][]int64) bool {
	first := call()
	want := copyOf(first)
	for i := range want {
		second := call()
		overwrite(second[i])
		second[i] = want[i]
		if !sameLists(second, want) {
			return false
		}
		clear(second)
	}
	// Another call could restore what they share, so the first result is looked at before it.
	return sameLists(first, want) && sameLists(call(), want)
}

func TestDeckConstants(t *testing.T) {
	if impl.MaxSeed != 2147483646 || impl.MaxHands != 10 {
		t.Error("the constants are", int64(impl.MaxSeed), int64(impl.MaxHands))
	}
}

func TestIsDeck(t *testing.T) {
	for _, deck := range sampleDecks() {
		if !impl.IsDeck(deck) || !impl.IsDeck(guarded(deck)) {
			t.Error(deck, "is a deck")
		}
	}
	for _, list := range noDecks() {
		if impl.IsDeck(list) {
			t.Error(list, "is no deck")
		}
	}
}

func TestNextSeed(t *testing.T) {
	for _, c := range [][2]int64{{1, 48271}, {2, 96542}, {48271, 182605794}, {44488, 2147480248}, {44489, 44872}, {2147483646, 2147435376}} {
		if got, code := impl.NextSeed(c[0]); got != c[1] || code != impl.ErrNone {
			t.Error("NextSeed of", c[0], "is", got, code)
		}
	}
	for _, seed := range sampleSeeds() {
		if got, code := impl.NextSeed(seed); got != seedAfter(seed, 1) || code != impl.ErrNone {
			t.Error("NextSeed of", seed, "is", got, code)
		}
	}
}

// The seed after 10000 steps from 1 is the one that the C++ standard tells for this generator.
func TestTenThousandSeeds(t *testing.T) {
	seed, code := int64(1), int64(impl.ErrNone)
	for range 10000 {
		seed, code = impl.NextSeed(seed)
		if seed < 1 || seed > 2147483646 || code != impl.ErrNone {
			t.Fatal("the next seed is", seed, code)
		}
	}
	if seed != 399268537 {
		t.Error("the seed after 10000 steps is", seed)
	}
}

func TestNoSeeds(t *testing.T) {
	for _, wrong := range noSeeds {
		if got, code := impl.NextSeed(wrong); got != 0 || code != impl.ErrRange {
			t.Error("NextSeed of", wrong, "is", got, code)
		}
		if got, code := impl.ShuffledDeck(wrong); len(got) != 0 || code != impl.ErrRange {
			t.Error("ShuffledDeck of", wrong, "is", got, code)
		}
	}
}

func TestShuffledDeckOfKnownSeeds(t *testing.T) {
	for seed, want := range shuffledTexts {
		if got, code := impl.ShuffledDeck(seed); code != impl.ErrNone || !impl.IsDeck(got) || textOf(got) != want {
			t.Error("ShuffledDeck of", seed, "is", got, code)
		}
	}
}

func TestShuffledDeck(t *testing.T) {
	for _, seed := range sampleSeeds() {
		want := wholeDeck()
		for step := int64(1); step <= 51; step++ {
			upper := 52 - step
			lower := seedAfter(seed, step) % (upper + 1)
			want[upper], want[lower] = want[lower], want[upper]
		}
		if got, code := impl.ShuffledDeck(seed); !slices.Equal(got, want) || code != impl.ErrNone {
			t.Error("ShuffledDeck of", seed, "is", got, code)
		}
	}
}

func TestCutDeck(t *testing.T) {
	for _, deck := range sampleDecks() {
		for n := int64(0); n <= 52; n++ {
			got, code := impl.CutDeck(deck, n)
			if !slices.Equal(got, slices.Concat(deck[n:], deck[:n])) || code != impl.ErrNone {
				t.Error("CutDeck of", deck, n, "is", got, code)
			}
			if back, code := impl.CutDeck(got, 52-n); !slices.Equal(back, deck) || code != impl.ErrNone {
				t.Error("cut by", n, "and back,", deck, "has become", back, code)
			}
		}
	}
}

func TestRiffleDeck(t *testing.T) {
	for _, deck := range sampleDecks() {
		var want []int64
		for i := range 26 {
			want = append(want, deck[i], deck[26+i])
		}
		got, code := impl.RiffleDeck(deck)
		if !slices.Equal(got, want) || code != impl.ErrNone {
			t.Error("RiffleDeck of", deck, "is", got, code)
		}
		if back, code := impl.UnriffleDeck(got); !slices.Equal(back, deck) || code != impl.ErrNone {
			t.Error("UnriffleDeck of", got, "is", back, code)
		}
	}
}

func TestUnriffleDeck(t *testing.T) {
	for _, deck := range sampleDecks() {
		var upper, lower []int64
		for i := 0; i < 52; i += 2 {
			upper, lower = append(upper, deck[i]), append(lower, deck[i+1])
		}
		got, code := impl.UnriffleDeck(deck)
		if !slices.Equal(got, append(upper, lower...)) || code != impl.ErrNone {
			t.Error("UnriffleDeck of", deck, "is", got, code)
		}
		if again, code := impl.RiffleDeck(got); !slices.Equal(again, deck) || code != impl.ErrNone {
			t.Error("RiffleDeck of", got, "is", again, code)
		}
	}
}

// Fewer than eight riffles do not restore a deck, and the top and the bottom card stay where they are.
func TestEightRifflesRestore(t *testing.T) {
	for name, riffle := range map[string]func([]int64) ([]int64, int64){"RiffleDeck": impl.RiffleDeck, "UnriffleDeck": impl.UnriffleDeck} {
		for _, deck := range sampleDecks() {
			now, code := deck, int64(impl.ErrNone)
			for round := 1; round <= 8; round++ {
				now, code = riffle(now)
				if code != impl.ErrNone || !impl.IsDeck(now) || now[0] != deck[0] || now[51] != deck[51] {
					t.Fatal(name, "of", deck, "in round", round, "is", now, code)
				}
				if slices.Equal(now, deck) != (round == 8) {
					t.Error(name, "of", deck, "in round", round, "is", now)
				}
			}
		}
	}
}

func TestPlaceOf(t *testing.T) {
	for _, deck := range sampleDecks() {
		for i, card := range deck {
			if got, code := impl.PlaceOf(deck, card); got != int64(i) || code != impl.ErrNone {
				t.Error("PlaceOf of", deck, card, "is", got, code)
			}
		}
		for _, wrong := range noCards {
			if got, code := impl.PlaceOf(deck, wrong); got != 0 || code != impl.ErrRange {
				t.Error("PlaceOf of", deck, wrong, "is", got, code)
			}
		}
	}
}

// dealtByTurns gives the cards away one at a time.
func dealtByTurns(deck []int64, hands, cards int64) [][]int64 {
	dealt := make([][]int64, hands)
	for i := range hands * cards {
		dealt[i%hands] = append(dealt[i%hands], deck[i])
	}
	return dealt
}

func TestDealHands(t *testing.T) {
	for _, deck := range sampleDecks() {
		for hands := int64(1); hands <= 10; hands++ {
			for cards := int64(0); hands*cards <= 52; cards++ {
				got, code := impl.DealHands(deck, hands, cards)
				if !sameLists(got, dealtByTurns(deck, hands, cards)) || code != impl.ErrNone {
					t.Error("DealHands of", deck, hands, cards, "is", got, code)
				}
				rest, code := impl.RestOfDeck(deck, hands*cards)
				if together := append(slices.Concat(got...), rest...); code != impl.ErrNone || !impl.IsDeck(together) {
					t.Error("DealHands and RestOfDeck of", deck, hands, cards, "are", got, rest, code)
				}
			}
		}
	}
}

func TestRestOfDeck(t *testing.T) {
	for _, deck := range sampleDecks() {
		for used := int64(0); used <= 52; used++ {
			if got, code := impl.RestOfDeck(deck, used); !slices.Equal(got, deck[used:]) || code != impl.ErrNone {
				t.Error("RestOfDeck of", deck, used, "is", got, code)
			}
		}
	}
}

func TestNumbersOutsideTheirRanges(t *testing.T) {
	for _, deck := range sampleDecks()[:6] {
		for i, c := range badCalls() {
			if got, code := c.call(deck); len(got) != 0 || code != impl.ErrRange {
				t.Error(c.name, "in the call", i, "of", deck, "is", got, code)
			}
		}
	}
}

// The error of what is no deck comes first, whatever the numbers are.
func TestNoDecksComeFirst(t *testing.T) {
	calls := append(goodCalls(), badCalls()...)
	numbers := append(wholeDeck(), noCards...)
	for _, list := range noDecks() {
		for i, c := range calls {
			if got, code := c.call(list); len(got) != 0 || code != impl.ErrInvalid {
				t.Fatal(c.name, "in the call", i, "of", list, "is", got, code)
			}
		}
		for _, card := range numbers {
			if got, code := impl.PlaceOf(list, card); got != 0 || code != impl.ErrInvalid {
				t.Fatal("PlaceOf of", list, card, "is", got, code)
			}
		}
	}
}

func TestDeckArgumentsStay(t *testing.T) {
	calls := append(goodCalls(), badCalls()...)
	for _, list := range append(sampleDecks(), noDecks()...) {
		kept := guarded(list)
		impl.IsDeck(kept)
		impl.PlaceOf(kept, 7)
		impl.PlaceOf(kept, 52)
		for _, c := range calls {
			c.call(kept)
		}
		if !sameAsGuarded(kept, list) {
			t.Fatal(list, "has become", kept[:len(list)+3])
		}
	}
}

func TestDeckResultsAreNew(t *testing.T) {
	for _, deck := range sampleDecks()[:6] {
		kept := guarded(deck)
		for _, c := range goodCalls() {
			call := func() [][]int64 { got, _ := c.call(kept); return got }
			if !givesSeparateLists(call) || !sameAsGuarded(kept, deck) {
				t.Error(c.name, "shares memory")
			}
		}
	}
}

func TestShuffledDecksAreNew(t *testing.T) {
	for seed := range shuffledTexts {
		call := func() []int64 {
			got, _ := impl.ShuffledDeck(seed)
			return got
		}
		if !givesNewLists(call) {
			t.Error("ShuffledDeck of", seed, "shares memory")
		}
	}
}

// The calls in between would change the shuffle if it kept its seed from call to call.
func TestShufflesKeepNoState(t *testing.T) {
	for _, seed := range sampleSeeds()[:20] {
		first, _ := impl.ShuffledDeck(seed)
		impl.NextSeed(seed)
		impl.ShuffledDeck(seed + 1)
		impl.ShuffledDeck(0)
		if again, code := impl.ShuffledDeck(seed); !slices.Equal(first, again) || code != impl.ErrNone {
			t.Error("ShuffledDeck of", seed, "is", first, "and then", again, code)
		}
	}
}
