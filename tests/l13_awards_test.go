package tests

import (
	"math"
	"math/rand"
	"slices"
	"testing"

	"loop.example/g00910/impl"
)

// shown are the high and low values of all seats, and the seat from which on remaining chips are given out.
type shown struct {
	highs, lows []int64
	first       int64
}

func shownOf(first int64, highs, lows []int64) shown { return shown{highs, lows, first} }

// none is the list of the values of seats that have none.
func none(seats int) []int64 { return slices.Repeat([]int64{-1}, seats) }

// areWinnersAs decides by the definition: a set of some seats, in its order.
func areWinnersAs(winners []int64, seats int64) bool {
	sorted := slices.Compact(slices.Sorted(slices.Values(winners)))
	return len(winners) > 0 && slices.Equal(sorted, winners) && sorted[0] >= 0 && sorted[len(sorted)-1] < seats
}

// areValuesAs decides by the definition: one element of at least -1 for each seat.
func areValuesAs(values []int64, seats int64) bool {
	return int64(len(values)) == seats && (seats == 0 || slices.Min(values) >= -1)
}

// splitAs gives the winners one chip after the other, from the first one on, as often as there are chips:
// so the k-th of them gets those with the numbers k, k plus the number of winners, and so on.
func splitAs(amount int64, winners []int64, seats, first int64) []int64 {
	chips, count, k := make([]int64, seats), int64(len(winners)), int64(0)
	for _, seat := range seatsAs(seats, first) {
		if slices.Contains(winners, seat) {
			chips[seat] = (amount - k + count - 1) / count
			k++
		}
	}
	return chips
}

// unbeatenAs are those of some seats with a value that none of the others has beaten.
func unbeatenAs(seats, values []int64, beats func(a, b int64) bool) []int64 {
	var unbeaten []int64
	for _, seat := range seats {
		beaten := func(other int64) bool { return values[other] >= 0 && beats(values[other], values[seat]) }
		if values[seat] >= 0 && !slices.ContainsFunc(seats, beaten) {
			unbeaten = append(unbeaten, seat)
		}
	}
	return unbeaten
}

func highestAs(seats, values []int64) []int64 {
	return unbeatenAs(seats, values, func(a, b int64) bool { return a > b })
}

func lowestAs(seats, values []int64) []int64 {
	return unbeatenAs(seats, values, func(a, b int64) bool { return a < b })
}

// added is the sum of two lists, element by element.
func added(a, b []int64) []int64 {
	sums := slices.Clone(a)
	for i := range b {
		sums[i] += b[i]
	}
	return sums
}

// potAwardAs awards one pot by the definition.
func potAwardAs(p impl.Pot, s shown) []int64 {
	seats := int64(len(s.highs))
	high, low := highestAs(p.Seats, s.highs), lowestAs(p.Seats, s.lows)
	switch {
	case high == nil && low == nil:
		return splitAs(p.Amount, p.Seats, seats, s.first)
	case low == nil:
		return splitAs(p.Amount, high, seats, s.first)
	case high == nil:
		return splitAs(p.Amount, low, seats, s.first)
	}
	return added(splitAs(p.Amount/2, low, seats, s.first), splitAs((p.Amount+1)/2, high, seats, s.first))
}

func potAwardsAs(pots []impl.Pot, s shown) []int64 {
	awards := make([]int64, len(s.highs))
	for _, p := range pots {
		awards = added(awards, potAwardAs(p, s))
	}
	return awards
}

func settledAs(p payments, s shown) []int64 {
	seat, uncalled := uncalledAs(p)
	awards := potAwardsAs(potsAs(p), s)
	awards[seat] += uncalled
	return awards
}

// subsetsOf are all lists of at least one of some seats, strictly increasing.
func subsetsOf(seats int64) [][]int64 {
	var all [][]int64
	for bits := 1; bits < 1<<seats; bits++ {
		var subset []int64
		for seat := range seats {
			if bits>>seat&1 == 1 {
				subset = append(subset, seat)
			}
		}
		all = append(all, subset)
	}
	return all
}

// listsOf are all lists of a length with elements from least to greatest.
func listsOf(length int, least, greatest int64) [][]int64 {
	lists := [][]int64{nil}
	for range length {
		var longer [][]int64
		for _, shorter := range lists {
			for n := least; n <= greatest; n++ {
				longer = append(longer, append(slices.Clone(shorter), n))
			}
		}
		lists = longer
	}
	return lists
}

// expectSplit compares SplitChips with what it has to be, and checks the promise for it.
func expectSplit(t *testing.T, amount int64, winners []int64, seats, first int64) {
	t.Helper()
	got, code := impl.SplitChips(amount, winners, seats, first)
	if !slices.Equal(got, splitAs(amount, winners, seats, first)) || code != impl.ErrNone {
		t.Fatal("SplitChips of", amount, winners, seats, first, "is", got, code, "and not", splitAs(amount, winners, seats, first))
	}
	if sumOf(got) != amount {
		t.Fatal("SplitChips of", amount, winners, seats, first, "gives out", sumOf(got))
	}
	for seat, chips := range got {
		least := amount / int64(len(winners))
		if wins := slices.Contains(winners, int64(seat)); !wins && chips != 0 || wins && chips != least && chips != least+1 {
			t.Fatal("SplitChips of", amount, winners, seats, first, "is", got)
		}
	}
}

// expectAwards compares AwardPots, and for each pot AwardPot, with what they have to be, and checks the
// promise for them.
func expectAwards(t *testing.T, pots []impl.Pot, s shown) {
	t.Helper()
	all := int64(0)
	for _, p := range pots {
		got, code := impl.AwardPot(p, s.highs, s.lows, s.first)
		if !slices.Equal(got, potAwardAs(p, s)) || code != impl.ErrNone {
			t.Fatal("AwardPot of", p, s, "is", got, code, "and not", potAwardAs(p, s))
		}
		expectOnlyWinners(t, p, s, got)
		all += p.Amount
	}
	got, code := impl.AwardPots(pots, s.highs, s.lows, s.first)
	if !slices.Equal(got, potAwardsAs(pots, s)) || code != impl.ErrNone {
		t.Fatal("AwardPots of", pots, s, "is", got, code, "and not", potAwardsAs(pots, s))
	}
	if sumOf(got) != all {
		t.Fatal("AwardPots of", pots, s, "gives out", sumOf(got), "of", all)
	}
}

// expectOnlyWinners checks the promise for one pot: its winners get all of it, and nobody else anything.
func expectOnlyWinners(t *testing.T, p impl.Pot, s shown, awards []int64) {
	t.Helper()
	high, noHigh := impl.HighWinners(p.Seats, s.highs)
	low, noLow := impl.LowWinners(p.Seats, s.lows)
	winners := slices.Concat(high, low)
	if noHigh == impl.ErrNotFound && noLow == impl.ErrNotFound {
		winners = p.Seats
	}
	for seat, chips := range awards {
		if chips < 0 || chips > 0 && !slices.Contains(winners, int64(seat)) {
			t.Fatal("AwardPot of", p, s, "is", awards, "and the winners are", winners)
		}
	}
	if sumOf(awards) != p.Amount {
		t.Fatal("AwardPot of", p, s, "gives out", sumOf(awards))
	}
}

// expectSettled compares SettleHand with what it has to be, and checks the promise for it.
func expectSettled(t *testing.T, p payments, s shown) []int64 {
	t.Helper()
	got, code := impl.SettleHand(p.paid, p.folded, s.highs, s.lows, s.first)
	if !slices.Equal(got, settledAs(p, s)) || code != impl.ErrNone {
		t.Fatal("SettleHand of", p, s, "is", got, code, "and not", settledAs(p, s))
	}
	if sumOf(got) != sumOf(p.paid) {
		t.Fatal("SettleHand of", p, s, "gives out", sumOf(got), "of", sumOf(p.paid))
	}
	seat, uncalled, _ := impl.UncalledOf(p.paid, p.folded)
	won := slices.Clone(got)
	won[seat] -= uncalled
	for other, chips := range won {
		if share, _ := impl.ShareIn(p.paid, p.folded, int64(other)); chips < 0 || chips > share {
			t.Fatal("SettleHand of", p, s, "is", got)
		}
	}
	return got
}

// knownSplits are amounts, winners, seats, the first of them, and what each gets.
var knownSplits = []struct {
	name    string
	amount  int64
	winners []int64
	seats   int64
	first   int64
	want    []int64
}{
	{"the example of the chapter", 10, list(0, 1, 3), 4, 3, list(3, 3, 0, 4)},
	{"no remainder", 12, list(0, 1, 3), 4, 3, list(4, 4, 0, 4)},
	{"no remainder from another seat on", 12, list(0, 1, 3), 4, 1, list(4, 4, 0, 4)},
	{"a remainder of 1, the first seat is a winner", 13, list(0, 1, 3), 4, 0, list(5, 4, 0, 4)},
	{"a remainder of 1, the first seat is another winner", 13, list(0, 1, 3), 4, 1, list(4, 5, 0, 4)},
	{"a remainder of 1, the first seat is no winner", 13, list(0, 1, 3), 4, 2, list(4, 4, 0, 5)},
	{"a remainder of 1, the first seat is the last one", 13, list(0, 1, 3), 4, 3, list(4, 4, 0, 5)},
	{"a remainder of 2, the first seat is a winner", 14, list(0, 1, 3), 4, 0, list(5, 5, 0, 4)},
	{"a remainder of 2, the next winner is not beside it", 14, list(0, 1, 3), 4, 1, list(4, 5, 0, 5)},
	{"a remainder of 2, the first seat is no winner, past the last seat", 14, list(0, 1, 3), 4, 2, list(5, 4, 0, 5)},
	{"a remainder of 2, past the last seat", 14, list(0, 1, 3), 4, 3, list(5, 4, 0, 5)},
	{"a remainder of 1, no winner before the last seat", 7, list(0, 1), 5, 2, list(4, 3, 0, 0, 0)},
	{"one chip less than six winners", 5, list(0, 1, 2, 3, 4, 5), 6, 4, list(1, 1, 1, 0, 1, 1)},
	{"one chip for six winners", 1, list(0, 1, 2, 3, 4, 5), 6, 4, list(0, 0, 0, 0, 1, 0)},
	{"a chip for each of six winners", 6, list(0, 1, 2, 3, 4, 5), 6, 4, list(1, 1, 1, 1, 1, 1)},
	{"one chip more than six winners", 7, list(0, 1, 2, 3, 4, 5), 6, 4, list(1, 1, 1, 1, 2, 1)},
	{"one chip more than twice six winners less one", 11, list(0, 1, 2, 3, 4, 5), 6, 1, list(1, 2, 2, 2, 2, 2)},
	{"one chip for two seats", 1, list(0, 1), 2, 1, list(0, 1)},
	{"one chip for two of three seats", 1, list(1, 2), 3, 0, list(0, 1, 0)},
	{"one chip for the last one of all seats", 1, list(5), 6, 0, list(0, 0, 0, 0, 0, 1)},
	{"one winner, who is not the first seat", 7, list(0), 2, 1, list(7, 0)},
	{"one winner, who is the first seat", 7, list(5), 6, 5, list(0, 0, 0, 0, 0, 7)},
	{"one winner of the greatest amount", 600000, list(1), 2, 0, list(0, 600000)},
	{"nothing for one winner", 0, list(1), 2, 0, list(0, 0)},
	{"nothing for all seats", 0, list(0, 1, 2, 3, 4, 5), 6, 3, list(0, 0, 0, 0, 0, 0)},
	{"the greatest amount for all seats", 600000, list(0, 1, 2, 3, 4, 5), 6, 3, list(100000, 100000, 100000, 100000, 100000, 100000)},
	{"one chip less than the greatest amount", 599999, list(0, 1, 2, 3, 4, 5), 6, 2, list(100000, 99999, 100000, 100000, 100000, 100000)},
	{"one chip less than the greatest amount for two seats", 599999, list(0, 1), 2, 1, list(299999, 300000)},
}

func TestKnownSplits(t *testing.T) {
	for _, c := range knownSplits {
		if got, code := impl.SplitChips(c.amount, c.winners, c.seats, c.first); !slices.Equal(got, c.want) || code != impl.ErrNone {
			t.Error("SplitChips with", c.name, "is", got, code, "and not", c.want)
		}
		expectSplit(t, c.amount, c.winners, c.seats, c.first)
	}
}

// All winners at all tables, from all seats on.
func TestAllSplits(t *testing.T) {
	for seats := int64(2); seats <= 6; seats++ {
		for _, winners := range subsetsOf(seats) {
			for first := range seats {
				for amount := range int64(14) {
					expectSplit(t, amount, winners, seats, first)
					expectSplit(t, 600000-amount, winners, seats, first)
				}
			}
		}
	}
}

// dealtOut gives out chips one by one, from a seat on to the left, to winners alone.
func dealtOut(amount int64, winners []int64, seats, first int64) []int64 {
	chips, seat := make([]int64, seats), first
	for amount > 0 {
		if slices.Contains(winners, seat) {
			chips[seat]++
			amount--
		}
		seat = (seat + 1) % seats
	}
	return chips
}

func TestSplitsChipByChip(t *testing.T) {
	source := rand.New(rand.NewSource(13))
	for range 3000 {
		seats := 2 + source.Int63n(5)
		subsets := subsetsOf(seats)
		winners, amount, first := subsets[source.Intn(len(subsets))], source.Int63n(200), source.Int63n(seats)
		want := dealtOut(amount, winners, seats, first)
		if got, code := impl.SplitChips(amount, winners, seats, first); !slices.Equal(got, want) || code != impl.ErrNone {
			t.Fatal("SplitChips of", amount, winners, seats, first, "is", got, code, "and not", want)
		}
		awards, code := impl.AwardPot(potOf(amount, winners...), none(int(seats)), none(int(seats)), first)
		if !slices.Equal(awards, want) || code != impl.ErrNone {
			t.Fatal("AwardPot of", amount, winners, "without values is", awards, code, "and not", want)
		}
	}
}

// knownWinners are seats, the values of all, and those of the seats that win; nil if there are none.
var knownWinners = []struct {
	winners, values, high, low []int64
}{
	{list(0, 1, 2), list(5, 7, 7), list(1, 2), list(0)},
	{list(0, 1), list(-1, 3), list(1), list(1)},
	{list(0, 1), list(3, -1), list(0), list(0)},
	{list(0, 1), list(-1, -1), nil, nil},
	{list(0, 1), list(0, -1), list(0), list(0)},
	{list(0, 1), list(-1, 0), list(1), list(1)},
	{list(0, 1), list(0, 0), list(0, 1), list(0, 1)},
	{list(0, 1), list(0, 1), list(1), list(0)},
	{list(0, 1), list(1, 0), list(0), list(1)},
	{list(1), list(9, 4), list(1), list(1)},
	{list(1), list(4, 9), list(1), list(1)},
	{list(0), list(4, -1), list(0), list(0)},
	{list(1), list(4, -1), nil, nil},
	{list(0, 2), list(5, 9, 5), list(0, 2), list(0, 2)},
	{list(0, 2), list(5, 1, 5), list(0, 2), list(0, 2)},
	{list(0, 2), list(-1, 9, -1), nil, nil},
	{list(0, 1, 2, 3, 4, 5), list(4, 4, 4, 4, 4, 4), list(0, 1, 2, 3, 4, 5), list(0, 1, 2, 3, 4, 5)},
	{list(0, 1, 2, 3, 4, 5), none(6), nil, nil},
	{list(0, 1, 2, 3, 4, 5), list(1, 2, 3, 4, 5, 6), list(5), list(0)},
	{list(0, 1, 2, 3, 4, 5), list(6, 5, 4, 3, 2, 1), list(0), list(5)},
	{list(0, 1, 2, 3, 4, 5), list(2, 1, 3, 1, 3, 2), list(2, 4), list(1, 3)},
	{list(0, 1, 2, 3, 4, 5), list(-1, 3, 0, -1, 3, 0), list(1, 4), list(2, 5)},
	{list(1, 2, 3, 5), list(9, 3, 3, -1, 0, 8), list(5), list(1, 2)},
	// Values have no greatest one.
	{list(0, 1, 2), list(math.MaxInt64, math.MaxInt64-1, math.MaxInt64), list(0, 2), list(1)},
	{list(0, 1, 2), list(-1, math.MaxInt64, -1), list(1), list(1)},
	{list(0, 1, 2), list(math.MaxInt64, -1, 0), list(0), list(2)},
}

// expectWinners compares both functions for winners with known ones.
func expectWinners(t *testing.T, winners, values, high, low []int64) {
	t.Helper()
	for name, c := range map[string]struct {
		call func(winners, values []int64) ([]int64, int64)
		want []int64
	}{"HighWinners": {impl.HighWinners, high}, "LowWinners": {impl.LowWinners, low}} {
		wantCode := int64(impl.ErrNone)
		if c.want == nil {
			wantCode = impl.ErrNotFound
		}
		if got, code := c.call(winners, values); !slices.Equal(got, c.want) || code != wantCode {
			t.Fatal(name, "of", winners, values, "is", got, code, "and not", c.want)
		}
	}
}

func TestKnownWinners(t *testing.T) {
	for _, c := range knownWinners {
		expectWinners(t, c.winners, c.values, c.high, c.low)
	}
}

// All winners with all values from -1 to 2 or 1.
func TestAllWinners(t *testing.T) {
	for seats := 2; seats <= 6; seats++ {
		greatest := int64(2)
		if seats == 6 {
			greatest = 1
		}
		for _, values := range listsOf(seats, -1, greatest) {
			for _, winners := range subsetsOf(int64(seats)) {
				expectWinners(t, winners, values, highestAs(winners, values), lowestAs(winners, values))
			}
		}
	}
}

// knownAwards are pots with the values of all seats, and what each seat gets.
var knownAwards = []struct {
	name string
	p    impl.Pot
	s    shown
	want []int64
}{
	{"one high winner", potOf(9, 0, 1, 2), shownOf(0, list(5, 7, 3), none(3)), list(0, 9, 0)},
	{"two high winners, an odd chip from the first seat on", potOf(9, 0, 1, 2), shownOf(0, list(5, 7, 7), none(3)), list(0, 5, 4)},
	{"two high winners, an odd chip from the last seat on", potOf(9, 0, 1, 2), shownOf(2, list(5, 7, 7), none(3)), list(0, 4, 5)},
	{"two high winners, an odd chip past the last seat", potOf(9, 0, 1, 2), shownOf(2, list(7, 7, 5), none(3)), list(5, 4, 0)},
	{"three high winners with an odd chip", potOf(10, 0, 1, 2), shownOf(1, list(0, 0, 0), none(3)), list(3, 4, 3)},
	{"three high winners with two odd chips", potOf(11, 0, 1, 2), shownOf(2, list(6, 6, 6), none(3)), list(4, 3, 4)},
	{"a better high value outside of the pot", potOf(8, 0, 2), shownOf(1, list(5, 9, 5), none(3)), list(4, 0, 4)},
	{"a better low value outside of the pot", potOf(8, 0, 2), shownOf(0, list(5, 6, 4), list(7, 1, 7)), list(6, 0, 2)},
	{"the only low value outside of the pot", potOf(8, 0, 2), shownOf(0, list(5, 6, 4), list(-1, 1, -1)), list(8, 0, 0)},
	{"the only values outside of the pot", potOf(8, 0, 2), shownOf(0, list(-1, 6, -1), list(-1, 1, -1)), list(4, 0, 4)},
	{"one seat in the pot", potOf(8, 1), shownOf(0, list(9, 1), list(1, 9)), list(0, 8)},
	{"one seat without values in the pot", potOf(7, 1), shownOf(0, list(9, -1), list(1, -1)), list(0, 7)},
	{"both kinds and an odd amount", potOf(9, 0, 1), shownOf(0, list(5, 5), list(-1, 4)), list(3, 6)},
	{"both kinds and an even amount", potOf(8, 0, 1), shownOf(0, list(5, 5), list(-1, 4)), list(2, 6)},
	{"both kinds, one winner each, and an odd amount", potOf(9, 0, 1), shownOf(0, list(5, 6), list(3, 4)), list(4, 5)},
	{"both kinds, one winner each, and an even amount", potOf(10, 0, 1), shownOf(0, list(5, 6), list(3, 4)), list(5, 5)},
	{"both kinds and one chip, which is that of the high winner", potOf(1, 0, 1), shownOf(0, list(5, 6), list(3, 4)), list(0, 1)},
	{"both kinds and two chips", potOf(2, 0, 1), shownOf(0, list(5, 6), list(3, 4)), list(1, 1)},
	{"both kinds and no chips", potOf(0, 0, 1), shownOf(0, list(5, 6), list(3, 4)), list(0, 0)},
	{"two low winners with an odd chip of their half", potOf(10, 0, 1, 2), shownOf(1, list(1, 2, 3), list(4, 4, 9)), list(2, 3, 5)},
	{"two of each kind with odd chips of both halves", potOf(22, 0, 1, 2, 3), shownOf(3, list(8, 8, 2, 2), list(6, 9, 9, 6)), list(11, 5, 0, 6)},
	{"three high winners and two low winners", potOf(23, 0, 1, 2, 3, 4), shownOf(2, list(7, 7, 7, -1, 1), list(5, 3, 4, 3, -1)), list(4, 9, 4, 6, 0)},
	{"one seat wins both halves", potOf(9, 0, 1, 2), shownOf(0, list(7, 5, 5), list(3, 4, 5)), list(9, 0, 0)},
	{"one seat wins one half and a part of the other one", potOf(9, 0, 1, 2), shownOf(0, list(7, 5, 5), list(3, 3, 5)), list(7, 2, 0)},
	{"all seats win both halves", potOf(9, 0, 1), shownOf(1, list(7, 7), list(3, 3)), list(4, 5)},
	{"all seats win both halves with two odd chips", potOf(11, 0, 1), shownOf(1, list(7, 7), list(3, 3)), list(5, 6)},
	{"nobody with a low value", potOf(9, 0, 1), shownOf(0, list(3, 4), none(2)), list(0, 9)},
	{"nobody with a high value", potOf(7, 0, 1, 2), shownOf(2, none(3), list(6, 6, 8)), list(4, 3, 0)},
	{"nobody with any value", potOf(7, 0, 1, 2), shownOf(1, none(3), none(3)), list(2, 3, 2)},
	{"nobody with any value in the pot", potOf(7, 0, 1, 2), shownOf(3, list(-1, -1, -1, 5), none(4)), list(3, 2, 2, 0)},
	{"a high value of 0", potOf(9, 0, 1), shownOf(1, list(0, -1), none(2)), list(9, 0)},
	{"a low value of 0", potOf(9, 0, 1), shownOf(1, none(2), list(-1, 0)), list(0, 9)},
	{"a high value of 0 against a low value of 0", potOf(9, 0, 1), shownOf(1, list(0, -1), list(-1, 0)), list(5, 4)},
	{"a low value of 0 and a greater one", potOf(9, 0, 1), shownOf(1, none(2), list(5, 0)), list(0, 9)},
	{"the greatest amount for six", potOf(600000, 0, 1, 2, 3, 4, 5), shownOf(0, list(9, 9, 9, 9, 9, 9), none(6)), list(100000, 100000, 100000, 100000, 100000, 100000)},
	{"the greatest amount for both kinds", potOf(600000, 0, 1), shownOf(0, list(5, 6), list(3, 4)), list(300000, 300000)},
	{"one chip less than the greatest amount", potOf(599999, 0, 1), shownOf(0, list(5, 6), list(3, 4)), list(299999, 300000)},
	{"the greatest values", potOf(6, 0, 1, 2), shownOf(0, list(math.MaxInt64, math.MaxInt64, 0), list(math.MaxInt64, -1, math.MaxInt64)), list(4, 1, 1)},
}

func TestKnownAwards(t *testing.T) {
	for _, c := range knownAwards {
		if got, code := impl.AwardPot(c.p, c.s.highs, c.s.lows, c.s.first); !slices.Equal(got, c.want) || code != impl.ErrNone {
			t.Error("AwardPot with", c.name, "is", got, code, "and not", c.want)
		}
		expectAwards(t, []impl.Pot{c.p}, c.s)
	}
}

// All values from -1 to 1 at tables of two and three seats.
func TestSmallAwards(t *testing.T) {
	for seats := 2; seats <= 3; seats++ {
		for _, highs := range listsOf(seats, -1, 1) {
			for _, lows := range listsOf(seats, -1, 1) {
				for _, in := range subsetsOf(int64(seats)) {
					for first := range int64(seats) {
						expectAwards(t, []impl.Pot{potOf(10, in...), potOf(15, in...)}, shownOf(first, highs, lows))
					}
				}
			}
		}
	}
}

// randomValues are values for some seats, many of which are equal or -1.
func randomValues(source *rand.Rand, seats int) []int64 {
	values := make([]int64, seats)
	greatest := []int64{-1, 0, 1, 3, 10, 800000}[source.Intn(6)]
	for seat := range values {
		values[seat] = source.Int63n(greatest+2) - 1
	}
	return values
}

func randomShown(source *rand.Rand, seats int) shown {
	return shownOf(source.Int63n(int64(seats)), randomValues(source, seats), randomValues(source, seats))
}

// randomPots are up to six pots of a table with any Seats.
func randomPots(source *rand.Rand, seats int64) []impl.Pot {
	pots, subsets := []impl.Pot{}, subsetsOf(seats)
	for range source.Intn(7) {
		amount := source.Int63n([]int64{1, 2, 30, 1000, 600001}[source.Intn(5)])
		pots = append(pots, potOf(amount, subsets[source.Intn(len(subsets))]...))
	}
	return pots
}

func TestRandomAwards(t *testing.T) {
	source := rand.New(rand.NewSource(131))
	both, neither := 0, 0
	for range 10000 {
		seats := 2 + source.Intn(5)
		pots, s := randomPots(source, int64(seats)), randomShown(source, seats)
		expectAwards(t, pots, s)
		for _, p := range pots {
			switch high, low := highestAs(p.Seats, s.highs), lowestAs(p.Seats, s.lows); {
			case high != nil && low != nil:
				both++
			case high == nil && low == nil:
				neither++
			}
		}
	}
	if both < 1000 || neither < 1000 {
		t.Error("only", both, "pots have both kinds of winners, and", neither, "none")
	}
}

func TestKnownSeveralPots(t *testing.T) {
	six := []impl.Pot{potOf(6, 0, 1, 2, 3, 4, 5), potOf(5, 1, 2, 3, 4, 5), potOf(8, 2, 3, 4, 5), potOf(9, 3, 4, 5), potOf(8, 4, 5), potOf(5, 5)}
	for _, c := range []struct {
		pots []impl.Pot
		s    shown
		want []int64
	}{
		{nil, shownOf(0, list(1, 2), none(2)), list(0, 0)},
		{[]impl.Pot{}, shownOf(5, list(1, 2, 3, 4, 5, 6), none(6)), list(0, 0, 0, 0, 0, 0)},
		{[]impl.Pot{potOf(4, 0, 1), potOf(3, 0)}, shownOf(0, list(1, 2), none(2)), list(3, 4)},
		{[]impl.Pot{potOf(3, 0), potOf(4, 0, 1)}, shownOf(0, list(1, 2), none(2)), list(3, 4)},
		{[]impl.Pot{potOf(4, 0, 1), potOf(4, 0, 1)}, shownOf(0, list(1, 2), none(2)), list(0, 8)},
		// Each pot has odd chips of its own.
		{[]impl.Pot{potOf(5, 0, 1, 2), potOf(5, 1, 2)}, shownOf(1, list(4, 4, 4), none(3)), list(1, 5, 4)},
		{[]impl.Pot{potOf(5, 0, 1), potOf(5, 0, 1), potOf(5, 0, 1)}, shownOf(1, list(4, 4), none(2)), list(6, 9)},
		{[]impl.Pot{potOf(9, 0, 1, 2), potOf(7, 1, 2)}, shownOf(0, list(9, 5, 5), list(-1, 3, 4)), list(5, 9, 2)},
		{[]impl.Pot{potOf(9, 0, 1, 2), potOf(7, 1, 2)}, shownOf(0, list(9, -1, -1), none(3)), list(9, 4, 3)},
		{six, shownOf(0, list(6, 5, 4, 3, 2, 1), none(6)), list(6, 5, 8, 9, 8, 5)},
		{six, shownOf(0, list(1, 2, 3, 4, 5, 6), none(6)), list(0, 0, 0, 0, 0, 41)},
		{six, shownOf(0, none(6), none(6)), list(1, 2, 4, 7, 11, 16)},
		{slices.Repeat([]impl.Pot{potOf(600000, 0, 1)}, 6), shownOf(1, list(1, 2), none(2)), list(0, 3600000)},
		{slices.Repeat([]impl.Pot{potOf(599999, 0, 1)}, 6), shownOf(1, list(2, 2), none(2)), list(1799994, 1800000)},
		{slices.Repeat([]impl.Pot{potOf(0, 0, 1)}, 6), shownOf(1, list(2, 2), none(2)), list(0, 0)},
	} {
		if got, code := impl.AwardPots(c.pots, c.s.highs, c.s.lows, c.s.first); !slices.Equal(got, c.want) || code != impl.ErrNone {
			t.Error("AwardPots of", c.pots, c.s, "is", got, code, "and not", c.want)
		}
		expectAwards(t, c.pots, c.s)
	}
}

// More than six pots are the first error of all.
func TestTooManyPots(t *testing.T) {
	good := shownOf(0, list(1, 2), none(2))
	for _, p := range []impl.Pot{potOf(0, 0, 1), potOf(5, 1), potOf(-1, 0), potOf(5), potOf(600001, 2)} {
		for _, count := range []int{7, 8, 13, 256, 262} {
			for _, s := range []shown{good, {}, shownOf(2, list(1, 2), none(2)), shownOf(0, list(1), none(2)), shownOf(0, list(-2, 1), none(7))} {
				if got, code := impl.AwardPots(slices.Repeat([]impl.Pot{p}, count), s.highs, s.lows, s.first); len(got) != 0 || code != impl.ErrLimit {
					t.Error("AwardPots of", count, "pots", p, s, "is", got, code)
				}
			}
		}
	}
}

// knownSettlements are payments with the values of all seats, and what each seat gets.
var knownSettlements = []struct {
	name string
	p    payments
	s    shown
	want []int64
}{
	{"uncalled chips", paymentsOf("..", 10, 4), shownOf(1, list(1, 2), none(2)), list(6, 8)},
	{"uncalled chips of the winner", paymentsOf("..", 10, 4), shownOf(1, list(2, 1), none(2)), list(14, 0)},
	{"uncalled chips and equal values", paymentsOf("..", 10, 3), shownOf(1, list(2, 2), none(2)), list(10, 3)},
	{"nothing uncalled", paymentsOf("..", 7, 7), shownOf(1, list(1, 2), none(2)), list(0, 14)},
	{"no pots", paymentsOf("..", 5, 0), shownOf(1, list(1, 2), none(2)), list(5, 0)},
	{"no pots at a table of six", paymentsOf(".f.f..", 0, 0, 0, 0, 8, 0), shownOf(1, list(1, 2, 3, 4, 5, 6), none(6)), list(0, 0, 0, 0, 8, 0)},
	{"a folded seat with the best values", paymentsOf("..f", 10, 5, 10), shownOf(0, list(1, 2, 9), list(8, 7, 1)), list(10, 15, 0)},
	{"a folded seat with the only values", paymentsOf(".f.", 3, 3, 3), shownOf(1, list(-1, 2, -1), list(-1, 2, -1)), list(4, 0, 5)},
	{"all others have folded", paymentsOf("f.f", 9, 2, 9), shownOf(0, none(3), none(3)), list(0, 20, 0)},
	{"uncalled chips of a folded seat", paymentsOf("f..", 10, 4, 4), shownOf(0, list(9, 1, 2), none(3)), list(6, 0, 12)},
	{"side pots for the weaker hands", paymentsOf("....", 2, 5, 9, 9), shownOf(0, list(4, 3, 2, 1), none(4)), list(8, 9, 8, 0)},
	{"side pots for the best hand", paymentsOf("....", 2, 5, 9, 9), shownOf(0, list(1, 2, 3, 4), none(4)), list(0, 0, 0, 25)},
	{"odd chips of a main pot and a side pot", paymentsOf("f...", 1, 2, 4, 4), shownOf(3, list(-1, 7, 7, 7), none(4)), list(0, 2, 4, 5)},
	{"both kinds of winners and side pots", paymentsOf("...f", 3, 8, 8, 2), shownOf(0, list(9, 5, 6, -1), list(-1, 3, 4, -1)), list(6, 10, 5, 0)},
	{"the greatest payments for one winner", paymentsOf("......", 600000, 600000, 600000, 600000, 600000, 600000), shownOf(0, list(1, 2, 3, 4, 5, 6), none(6)), list(0, 0, 0, 0, 0, 3600000)},
	{"the greatest payments for all", paymentsOf("......", 600000, 600000, 600000, 600000, 600000, 600000), shownOf(0, none(6), none(6)), list(600000, 600000, 600000, 600000, 600000, 600000)},
	{"a pot that is one chip greater than that of AwardPot", paymentsOf("..f", 300000, 300000, 1), shownOf(1, list(5, 5, -1), none(3)), list(300000, 300001, 0)},
	{"a pot that is as great as that of AwardPot", paymentsOf("..", 300000, 300000), shownOf(1, list(5, 6), none(2)), list(0, 600000)},
	{"the greatest payment alone", paymentsOf("...", 0, 600000, 0), shownOf(1, none(3), none(3)), list(0, 600000, 0)},
}

func TestKnownSettlements(t *testing.T) {
	for _, c := range knownSettlements {
		got, code := impl.SettleHand(c.p.paid, c.p.folded, c.s.highs, c.s.lows, c.s.first)
		if !slices.Equal(got, c.want) || code != impl.ErrNone {
			t.Error("SettleHand with", c.name, "is", got, code, "and not", c.want)
		}
		expectSettled(t, c.p, c.s)
	}
}

func TestSmallSettlements(t *testing.T) {
	source := rand.New(rand.NewSource(132))
	for _, p := range smallPayments() {
		expectSettled(t, p, randomShown(source, len(p.paid)))
	}
}

func TestRandomSettlements(t *testing.T) {
	source := rand.New(rand.NewSource(133))
	for _, p := range randomPayments() {
		s := randomShown(source, len(p.paid))
		awards := expectSettled(t, p, s)
		if slices.Max(awards) > 600000 {
			expectNet(t, p.paid, awards)
			continue
		}
		net, code := impl.NetResult(p.paid, awards)
		if sumOf(net) != 0 || !slices.Equal(added(p.paid, net), awards) || code != impl.ErrNone {
			t.Fatal("NetResult of", p.paid, awards, "is", net, code)
		}
	}
}

// The pots of payments, awarded by AwardPots, and the uncalled chips are what SettleHand gives out.
func TestSettlementsOfPots(t *testing.T) {
	source, tried := rand.New(rand.NewSource(134)), 0
	for _, p := range append(randomPayments(), basePayments()...) {
		if sumOf(p.paid) > 600000 {
			continue
		}
		tried++
		s := randomShown(source, len(p.paid))
		pots, _ := impl.PotsOf(p.paid, p.folded)
		awards, code := impl.AwardPots(pots, s.highs, s.lows, s.first)
		seat, uncalled, _ := impl.UncalledOf(p.paid, p.folded)
		if code != impl.ErrNone {
			t.Fatal("AwardPots of", pots, s, "is", awards, code)
		}
		awards[seat] += uncalled
		if got, code := impl.SettleHand(p.paid, p.folded, s.highs, s.lows, s.first); !slices.Equal(got, awards) || code != impl.ErrNone {
			t.Fatal("SettleHand of", p, s, "is", got, code, "and not", awards)
		}
	}
	if tried < 10000 {
		t.Error("only", tried, "payments have small pots")
	}
}

// dealtShown are the values of dealt cards for the seats that have not folded.
func dealtShown(t *testing.T, variant int64, b impl.Betting, seed int64) shown {
	t.Helper()
	v, _ := impl.StandardVariant(variant)
	seats := int64(len(b.Stacks))
	deck, _ := impl.ShuffledDeck(seed)
	holes, _ := impl.DealHands(deck, seats, v.Hole)
	rest, code := impl.RestOfDeck(deck, seats*v.Hole)
	if code != impl.ErrNone {
		t.Fatal("RestOfDeck is", rest, code)
	}
	s := shownOf(seed%seats, none(int(seats)), none(int(seats)))
	for seat, hole := range holes {
		if b.Folded[seat] {
			continue
		}
		s.highs[seat], _ = impl.HighIn(v, hole, rest[:v.Board])
		if low, code := impl.LowIn(v, hole, rest[:v.Board]); code == impl.ErrNone {
			s.lows[seat] = low
		}
	}
	return s
}

// Hands are played to their end and settled with the values of dealt cards: the chips are those of the
// table, and the next one can be made from the stacks.
func TestSettlementsOfPlayedHands(t *testing.T) {
	source := rand.New(rand.NewSource(135))
	withLow := 0
	for number, table := range slices.Concat(largeTables(), baseTables()) {
		b, code := impl.FirstRound(table)
		for street := int64(1); code == impl.ErrNone; street++ {
			b = playStreet(t, source, b)
			b, code = nextOrSame(table, b, street)
		}
		paid, _ := impl.Contributions(b)
		s := dealtShown(t, int64(2*(number%2)), b, int64(number+1))
		if slices.Max(s.lows) >= 0 {
			withLow++
		}
		awards := expectSettled(t, payments{paid, b.Folded}, s)
		net, code := impl.NetResult(paid, awards)
		chips, _ := impl.ChipsAt(table)
		stacks := added(b.Stacks, awards)
		if code != impl.ErrNone || sumOf(stacks) != chips || !slices.Equal(stacks, added(table.Stacks, net)) {
			t.Fatalf("the stacks behind %+v are %v, %v", b, stacks, code)
		}
	}
	if withLow < 20 {
		t.Error("only", withLow, "hands have a low value")
	}
}

// netCodeAs decides by the definition, with the numbers of the document.
func netCodeAs(paid, awards []int64) int64 {
	if len(paid) != len(awards) || len(paid) > 6 {
		return impl.ErrRange
	}
	for _, chips := range slices.Concat(paid, awards) {
		if chips < 0 || chips > 600000 {
			return impl.ErrRange
		}
	}
	if sumOf(paid) != sumOf(awards) {
		return impl.ErrState
	}
	return impl.ErrNone
}

// expectNet compares NetResult with what it has to be.
func expectNet(t *testing.T, paid, awards []int64) {
	t.Helper()
	got, code := impl.NetResult(paid, awards)
	if code != netCodeAs(paid, awards) || code != impl.ErrNone && len(got) != 0 {
		t.Fatal("NetResult of", paid, awards, "is", got, code)
	}
	if code == impl.ErrNone && (len(got) != len(paid) || !slices.Equal(added(paid, got), awards)) {
		t.Fatal("NetResult of", paid, awards, "is", got, code)
	}
}

func TestKnownNetResults(t *testing.T) {
	for _, c := range []struct {
		paid, awards, want []int64
		code               int64
	}{
		{list(10, 4), list(6, 8), list(-4, 4), impl.ErrNone},
		{list(6, 8), list(10, 4), list(4, -4), impl.ErrNone},
		{list(10, 4), list(10, 4), list(0, 0), impl.ErrNone},
		{list(5, 9, 2), list(0, 16, 0), list(-5, 7, -2), impl.ErrNone},
		{nil, nil, nil, impl.ErrNone},
		{list(), nil, nil, impl.ErrNone},
		{list(3), list(3), list(0), impl.ErrNone},
		{list(0, 0), list(0, 0), list(0, 0), impl.ErrNone},
		{list(600000, 0), list(0, 600000), list(-600000, 600000), impl.ErrNone},
		{list(1, 2, 3, 4, 5, 6), list(6, 5, 4, 3, 2, 1), list(5, 3, 1, -1, -3, -5), impl.ErrNone},
		{list(600000, 600000, 600000, 600000, 600000, 600000), list(600000, 600000, 600000, 600000, 600000, 600000), list(0, 0, 0, 0, 0, 0), impl.ErrNone},
		{list(1), list(2), nil, impl.ErrState},
		{list(2), list(1), nil, impl.ErrState},
		{list(10, 4), list(6, 9), nil, impl.ErrState},
		{list(10, 4), list(0, 0), nil, impl.ErrState},
		{list(600000, 600000), list(600000, 599999), nil, impl.ErrState},
		// Lists of other lengths, also with equal sums.
		{list(10, 4), list(14), nil, impl.ErrRange},
		{list(14), list(10, 4), nil, impl.ErrRange},
		{list(10, 4), list(10, 4, 0), nil, impl.ErrRange},
		{list(10, 4, 0), list(10, 4), nil, impl.ErrRange},
		{list(10, 4), nil, nil, impl.ErrRange},
		{nil, list(0), nil, impl.ErrRange},
		{list(0), nil, nil, impl.ErrRange},
		{list(0, 0, 0, 0, 0, 0, 0), list(0, 0, 0, 0, 0, 0, 0), nil, impl.ErrRange},
		{list(1, 2, 3, 4, 5, 6, 7), list(7, 6, 5, 4, 3, 2, 1), nil, impl.ErrRange},
		{make([]int64, 256), make([]int64, 256), nil, impl.ErrRange},
		// Numbers out of range, also with equal sums.
		{list(-1, 5), list(4, 0), nil, impl.ErrRange},
		{list(4, 0), list(-1, 5), nil, impl.ErrRange},
		{list(5, -1), list(0, 4), nil, impl.ErrRange},
		{list(0, 4), list(5, -1), nil, impl.ErrRange},
		{list(-1), list(-1), nil, impl.ErrRange},
		{list(600001, 0), list(1, 600000), nil, impl.ErrRange},
		{list(1, 600000), list(600001, 0), nil, impl.ErrRange},
		{list(600001), list(600001), nil, impl.ErrRange},
		{list(600000, 600000), list(1200000, 0), nil, impl.ErrRange},
		// These are wrong in the sums, too, and those of the others overflow to equal ones.
		{list(-1, 5), list(9, 9), nil, impl.ErrRange},
		{list(5, 5), list(9, 600001), nil, impl.ErrRange},
		{list(math.MinInt64, math.MinInt64), list(0, 0), nil, impl.ErrRange},
		{list(1, 1), list(math.MaxInt64, -math.MaxInt64+2), nil, impl.ErrRange},
	} {
		if got, code := impl.NetResult(c.paid, c.awards); !slices.Equal(got, c.want) || code != c.code {
			t.Error("NetResult of", c.paid, c.awards, "is", got, code, "and not", c.want, c.code)
		}
		expectNet(t, c.paid, c.awards)
	}
}

func TestSmallNetResults(t *testing.T) {
	for seats := range 4 {
		for _, paid := range listsOf(seats, -1, 2) {
			for _, awards := range listsOf(seats, -1, 2) {
				expectNet(t, paid, awards)
			}
		}
	}
	for _, base := range [][]int64{{7, 7}, {1, 2, 600000}, {0, 5, 9, 30, 2, 4}} {
		for seat := range base {
			for _, number := range append(list(-1, 0, 1, 599999, 600000, 600001), farNumbers...) {
				changed := slices.Clone(base)
				changed[seat] = number
				expectNet(t, changed, base)
				expectNet(t, base, changed)
				expectNet(t, changed, changed)
			}
		}
	}
}

// wrongWinners are lists that are no Seats at any table, or only at greater ones.
func wrongWinners() [][]int64 {
	all := [][]int64{nil, {}, {-1}, {-1, 0, 1}, {1, 0}, {0, 0}, {1, 1}, {0, 1, 1}, {0, 0, 1}, {0, 2, 1}, {1, 0, 2}, {6}, {0, 6}, {5, 4, 3, 2, 1, 0}, {0, 1, 2, 3, 4, 5, 6}, {0, 1, 2, 3, 4, 4}}
	for seats := range int64(7) {
		all = append(all, list(seats), list(0, seats), list(0, 1, seats), list(seats, 0))
	}
	for _, number := range farNumbers {
		all = append(all, list(number), list(0, number), list(number, 1))
	}
	return append(all, slices.Repeat([]int64{1}, 256), make([]int64, 7))
}

// splitCodeAs tells the error by the definition, with the numbers of the document.
func splitCodeAs(amount int64, winners []int64, seats, first int64) int64 {
	switch {
	case seats < 2 || seats > 6:
		return impl.ErrRange
	case !areWinnersAs(winners, seats):
		return impl.ErrInvalid
	case amount < 0 || amount > 600000 || first < 0 || first >= seats:
		return impl.ErrRange
	}
	return impl.ErrNone
}

// Each argument of SplitChips is right or wrong beside all others.
func TestCodesOfSplitChips(t *testing.T) {
	counts := [7]int{}
	for _, seats := range append(list(-1, 0, 1, 2, 3, 4, 5, 6, 7, 8), farNumbers...) {
		for _, winners := range append(subsetsOf(4), wrongWinners()...) {
			for _, amount := range list(-1, 0, 10, 599999, 600000, 600001, math.MinInt64, math.MaxInt64) {
				for _, first := range list(-1, 0, 1, seats-1, seats, 6, math.MinInt64, 1<<32, math.MaxInt64) {
					want := splitCodeAs(amount, winners, seats, first)
					got, code := impl.SplitChips(amount, winners, seats, first)
					if code != want || code != impl.ErrNone && len(got) != 0 {
						t.Fatal("SplitChips of", amount, winners, seats, first, "is", got, code, "and not", want)
					}
					if code == impl.ErrNone {
						expectSplit(t, amount, winners, seats, first)
					}
					counts[code]++
				}
			}
		}
	}
	if counts[impl.ErrNone] < 500 || counts[impl.ErrInvalid] < 5000 || counts[impl.ErrRange] < 5000 {
		t.Error("the codes are as often as", counts)
	}
}

// Each bound of SplitChips is tried on both of its sides, alone, and then which error comes first.
func TestBoundsOfSplitChips(t *testing.T) {
	all := list(0, 1, 2, 3, 4, 5)
	for _, c := range []struct {
		amount  int64
		winners []int64
		seats   int64
		first   int64
		code    int64
	}{
		{0, list(0), 2, 0, impl.ErrNone},
		{-1, list(0), 2, 0, impl.ErrRange},
		{600000, list(0), 2, 0, impl.ErrNone},
		{600001, list(0), 2, 0, impl.ErrRange},
		{5, list(0), 1, 0, impl.ErrRange},
		{5, list(0), 0, 0, impl.ErrRange},
		{5, list(0), 2, 0, impl.ErrNone},
		{5, all, 6, 0, impl.ErrNone},
		{5, all, 7, 0, impl.ErrRange},
		{5, all, 6, 5, impl.ErrNone},
		{5, all, 6, 6, impl.ErrRange},
		{5, all, 6, -1, impl.ErrRange},
		{5, list(0, 1), 2, 1, impl.ErrNone},
		{5, list(0, 1), 2, 2, impl.ErrRange},
		{5, nil, 2, 1, impl.ErrInvalid},
		{5, list(1), 2, 1, impl.ErrNone},
		{5, list(2), 2, 1, impl.ErrInvalid},
		{5, list(-1), 2, 1, impl.ErrInvalid},
		{5, list(-1, 1), 2, 1, impl.ErrInvalid},
		{5, list(1, 2), 2, 1, impl.ErrInvalid},
		{5, list(1, 1), 2, 1, impl.ErrInvalid},
		{5, list(1, 0), 2, 1, impl.ErrInvalid},
		{5, list(0, 2, 1), 6, 1, impl.ErrInvalid},
		{5, list(0, 2, 2), 6, 1, impl.ErrInvalid},
		{5, list(0, 2, 6), 6, 1, impl.ErrInvalid},
		{5, list(0, 2, 5), 6, 1, impl.ErrNone},
		// Seats are checked before winners, and winners before the amount and the first seat.
		{5, list(1, 0), 1, 0, impl.ErrRange},
		{5, nil, 7, 0, impl.ErrRange},
		{-1, nil, 7, -1, impl.ErrRange},
		{-1, list(0, 0), 2, 0, impl.ErrInvalid},
		{600001, list(2), 2, 0, impl.ErrInvalid},
		{5, nil, 2, -1, impl.ErrInvalid},
		{5, list(-1), 2, 2, impl.ErrInvalid},
	} {
		if got, code := impl.SplitChips(c.amount, c.winners, c.seats, c.first); code != c.code || (len(got) == 0) != (code != impl.ErrNone) {
			t.Error("SplitChips of", c.amount, c.winners, c.seats, c.first, "is", got, code, "and not", c.code)
		}
	}
}

// valueLists are lists of values of all lengths, right and wrong ones.
func valueLists() [][]int64 {
	var all [][]int64
	for length := range 9 {
		right := slices.Repeat([]int64{7}, length)
		all = append(all, right)
		for _, place := range list(0, int64(length-1)) {
			for _, number := range list(-1, 0, math.MaxInt64, -2, -3, -1<<32, math.MinInt64) {
				if length > 0 {
					changed := slices.Clone(right)
					changed[place] = number
					all = append(all, changed)
				}
			}
		}
	}
	return append(all, make([]int64, 256), make([]int64, 258))
}

// Winners and values are right or wrong beside one another.
func TestCodesOfWinners(t *testing.T) {
	counts := [7]int{}
	for _, values := range valueLists() {
		for _, winners := range append(subsetsOf(4), wrongWinners()...) {
			seats := int64(len(values))
			want := splitCodeAs(0, winners, seats, 0)
			if want == impl.ErrNone && !areValuesAs(values, seats) {
				want = impl.ErrRange
			}
			if want == impl.ErrNone {
				expectWinners(t, winners, values, highestAs(winners, values), lowestAs(winners, values))
				counts[want]++
				continue
			}
			high, one := impl.HighWinners(winners, values)
			low, two := impl.LowWinners(winners, values)
			if one != want || two != want || len(high) != 0 || len(low) != 0 {
				t.Fatal("the winners of", winners, values, "are", high, one, "and", low, two, "and not", want)
			}
			counts[want]++
		}
	}
	if counts[impl.ErrNone] < 300 || counts[impl.ErrInvalid] < 1000 || counts[impl.ErrRange] < 1000 {
		t.Error("the codes are as often as", counts)
	}
}

func TestBoundsOfWinners(t *testing.T) {
	for _, c := range []struct {
		winners, values []int64
		code            int64
	}{
		{list(0), nil, impl.ErrRange},
		{list(0), list(5), impl.ErrRange},
		{list(0), list(5, 5), impl.ErrNone},
		{list(5), list(5, 5, 5, 5, 5, 5), impl.ErrNone},
		{list(5), list(5, 5, 5, 5, 5, 5, 5), impl.ErrRange},
		{nil, list(5, 5), impl.ErrInvalid},
		{list(1, 0), list(5, 5), impl.ErrInvalid},
		{list(1, 1), list(5, 5), impl.ErrInvalid},
		{list(-1), list(5, 5), impl.ErrInvalid},
		{list(2), list(5, 5), impl.ErrInvalid},
		{list(0, 1), list(5, -1), impl.ErrNone},
		{list(0, 1), list(5, -2), impl.ErrRange},
		// A wrong value is an error although its seat is not asked for, and before nobody is found.
		{list(0), list(5, -2), impl.ErrRange},
		{list(0), list(-1, -2), impl.ErrRange},
		{list(0), list(-1, 5), impl.ErrNotFound},
		// Seats are checked before winners, and winners before values.
		{nil, list(5), impl.ErrRange},
		{list(7), list(5, 5, 5, 5, 5, 5, 5), impl.ErrRange},
		{nil, list(5, -2), impl.ErrInvalid},
		{list(2), list(-2, -2), impl.ErrInvalid},
	} {
		high, one := impl.HighWinners(c.winners, c.values)
		low, two := impl.LowWinners(c.winners, c.values)
		if one != c.code || two != c.code || (len(high) == 0) != (one != impl.ErrNone) || (len(low) == 0) != (two != impl.ErrNone) {
			t.Error("the winners of", c.winners, c.values, "are", high, one, "and", low, two, "and not", c.code)
		}
	}
}

// arePotsAs decides by the definition, with the numbers of the document.
func arePotsAs(pots []impl.Pot, seats int64) bool {
	isNone := func(p impl.Pot) bool { return p.Amount < 0 || p.Amount > 600000 || !areWinnersAs(p.Seats, seats) }
	return !slices.ContainsFunc(pots, isNone)
}

func isShownAs(s shown, seats int64) bool {
	return areValuesAs(s.highs, seats) && areValuesAs(s.lows, seats) && s.first >= 0 && s.first < seats
}

// awardCodeAs tells the error by the definition.
func awardCodeAs(pots []impl.Pot, s shown) int64 {
	seats := int64(len(s.highs))
	switch {
	case len(pots) > 6:
		return impl.ErrLimit
	case seats < 2 || seats > 6:
		return impl.ErrRange
	case !arePotsAs(pots, seats):
		return impl.ErrInvalid
	case !isShownAs(s, seats):
		return impl.ErrRange
	}
	return impl.ErrNone
}

// potLists are lists of pots, right and wrong ones.
func potLists() [][]impl.Pot {
	right := []impl.Pot{potOf(5, 0, 1), potOf(0, 1), potOf(600000, 0), potOf(7, 0, 2), potOf(9, 0, 5)}
	wrong := []impl.Pot{potOf(-1, 0, 1), potOf(600001, 0), potOf(math.MinInt64, 0), potOf(math.MaxInt64, 1), potOf(1<<32, 0)}
	for _, seats := range wrongWinners() {
		wrong = append(wrong, potOf(5, seats...))
	}
	all := [][]impl.Pot{nil, right, slices.Repeat(right[:1], 6), slices.Repeat(right[:1], 7), slices.Repeat(wrong[:1], 6), slices.Repeat(wrong[:1], 7)}
	for _, p := range slices.Concat(right, wrong) {
		all = append(all, []impl.Pot{p}, []impl.Pot{right[0], p}, []impl.Pot{p, right[1]}, []impl.Pot{right[0], right[0], right[1], right[1], right[1], p})
	}
	return all
}

// shownLists are values and first seats, right and wrong ones.
func shownLists() []shown {
	var all []shown
	for seats := range int64(9) {
		right := shownOf(0, slices.Repeat([]int64{7}, int(seats)), slices.Repeat([]int64{7}, int(seats)))
		for _, first := range list(0, 1, -1, seats-1, seats, 6, math.MinInt64, 1<<32, math.MaxInt64) {
			all = append(all, shownOf(first, right.highs, right.lows), shownOf(first, right.highs, none(int(seats))))
		}
		for length := range 9 {
			all = append(all, shownOf(0, right.highs, none(length)))
		}
		for _, number := range list(-1, 0, math.MaxInt64, -2, math.MinInt64) {
			changed := slices.Clone(right.highs)
			if seats > 0 {
				changed[seats-1] = number
			}
			all = append(all, shownOf(0, changed, right.lows), shownOf(0, right.highs, changed), shownOf(-1, changed, right.lows), shownOf(seats, right.highs, changed))
		}
	}
	return all
}

// Pots, values and first seats are right or wrong beside one another.
func TestCodesOfAwards(t *testing.T) {
	counts := [7]int{}
	for _, s := range shownLists() {
		for _, pots := range potLists() {
			want := awardCodeAs(pots, s)
			got, code := impl.AwardPots(pots, s.highs, s.lows, s.first)
			if code != want || code != impl.ErrNone && len(got) != 0 {
				t.Fatal("AwardPots of", pots, s, "is", got, code, "and not", want)
			}
			counts[code]++
			if code == impl.ErrNone {
				expectAwards(t, pots, s)
			}
			if len(pots) != 1 {
				continue
			}
			if got, code := impl.AwardPot(pots[0], s.highs, s.lows, s.first); code != want || code != impl.ErrNone && len(got) != 0 {
				t.Fatal("AwardPot of", pots[0], s, "is", got, code, "and not", want)
			}
		}
	}
	if counts[impl.ErrNone] < 500 || counts[impl.ErrInvalid] < 5000 || counts[impl.ErrRange] < 5000 || counts[impl.ErrLimit] < 100 {
		t.Error("the codes are as often as", counts)
	}
}

// Each bound of AwardPot and AwardPots is tried on both of its sides, alone, and then which error comes
// first.
func TestBoundsOfAwards(t *testing.T) {
	two, good := list(5, 6), potOf(5, 0, 1)
	for _, c := range []struct {
		p    impl.Pot
		s    shown
		code int64
	}{
		{good, shownOf(0, two, two), impl.ErrNone},
		{potOf(0, 0, 1), shownOf(0, two, two), impl.ErrNone},
		{potOf(-1, 0, 1), shownOf(0, two, two), impl.ErrInvalid},
		{potOf(600000, 0, 1), shownOf(0, two, two), impl.ErrNone},
		{potOf(600001, 0, 1), shownOf(0, two, two), impl.ErrInvalid},
		{potOf(5), shownOf(0, two, two), impl.ErrInvalid},
		{potOf(5, 1, 0), shownOf(0, two, two), impl.ErrInvalid},
		{potOf(5, 1, 1), shownOf(0, two, two), impl.ErrInvalid},
		{potOf(5, -1), shownOf(0, two, two), impl.ErrInvalid},
		{potOf(5, 1), shownOf(0, two, two), impl.ErrNone},
		{potOf(5, 2), shownOf(0, two, two), impl.ErrInvalid},
		{potOf(5, 2), shownOf(0, list(5, 6, 7), list(5, 6, 7)), impl.ErrNone},
		{good, shownOf(1, two, two), impl.ErrNone},
		{good, shownOf(2, two, two), impl.ErrRange},
		{good, shownOf(-1, two, two), impl.ErrRange},
		{good, shownOf(0, list(5), list(5)), impl.ErrRange},
		{good, shownOf(0, nil, nil), impl.ErrRange},
		{good, shownOf(0, none(6), none(6)), impl.ErrNone},
		{good, shownOf(0, none(7), none(7)), impl.ErrRange},
		{good, shownOf(0, two, list(5)), impl.ErrRange},
		{good, shownOf(0, two, list(5, 6, 7)), impl.ErrRange},
		{good, shownOf(0, two, nil), impl.ErrRange},
		{good, shownOf(0, nil, two), impl.ErrRange},
		{good, shownOf(0, list(5), two), impl.ErrRange},
		{good, shownOf(0, list(5, 6, 7), two), impl.ErrRange},
		{good, shownOf(0, list(5, -1), list(-1, 5)), impl.ErrNone},
		{good, shownOf(0, list(5, -2), two), impl.ErrRange},
		{good, shownOf(0, list(-2, 5), two), impl.ErrRange},
		{good, shownOf(0, two, list(5, -2)), impl.ErrRange},
		{good, shownOf(0, two, list(-2, 5)), impl.ErrRange},
		// A wrong value is an error although its seat is not in the pot.
		{potOf(5, 0), shownOf(0, list(5, -2), two), impl.ErrRange},
		{potOf(5, 0), shownOf(0, two, list(5, -2)), impl.ErrRange},
		// Seats are checked before a pot, and a pot before the values and the first seat.
		{potOf(5), shownOf(0, list(5), list(5)), impl.ErrRange},
		{potOf(-1, 0), shownOf(0, none(7), none(7)), impl.ErrRange},
		{potOf(600001, 7), shownOf(0, nil, two), impl.ErrRange},
		{potOf(5, 2), shownOf(0, two, list(5, 6, 7)), impl.ErrInvalid},
		{potOf(-1, 0), shownOf(2, two, two), impl.ErrInvalid},
		{potOf(600001, 0), shownOf(-1, two, two), impl.ErrInvalid},
		{potOf(5), shownOf(0, list(-2, 5), two), impl.ErrInvalid},
		{potOf(5, 1, 1), shownOf(0, two, list(5, -2)), impl.ErrInvalid},
		{potOf(5, -1), shownOf(0, two, list(5)), impl.ErrInvalid},
	} {
		for _, pots := range [][]impl.Pot{{c.p}, {good, c.p}, {c.p, good}, {good, good, good, good, good, c.p}} {
			if got, code := impl.AwardPots(pots, c.s.highs, c.s.lows, c.s.first); code != c.code || (len(got) == 0) != (code != impl.ErrNone) {
				t.Error("AwardPots of", pots, c.s, "is", got, code, "and not", c.code)
			}
		}
		if got, code := impl.AwardPot(c.p, c.s.highs, c.s.lows, c.s.first); code != c.code || (len(got) == 0) != (code != impl.ErrNone) {
			t.Error("AwardPot of", c.p, c.s, "is", got, code, "and not", c.code)
		}
	}
}

// Without pots the values and the first seat are checked all the same.
func TestBoundsWithoutPots(t *testing.T) {
	for _, c := range []struct {
		s    shown
		code int64
	}{
		{shownOf(0, none(2), none(2)), impl.ErrNone},
		{shownOf(5, none(6), none(6)), impl.ErrNone},
		{shownOf(0, none(1), none(1)), impl.ErrRange},
		{shownOf(0, none(7), none(7)), impl.ErrRange},
		{shownOf(2, none(2), none(2)), impl.ErrRange},
		{shownOf(0, none(2), none(3)), impl.ErrRange},
		{shownOf(0, list(-2, 0), none(2)), impl.ErrRange},
		{shownOf(0, none(2), list(0, -2)), impl.ErrRange},
		{shown{}, impl.ErrRange},
	} {
		got, code := impl.AwardPots(nil, c.s.highs, c.s.lows, c.s.first)
		if code != c.code || sumOf(got) != 0 || code != impl.ErrNone && len(got) != 0 || code == impl.ErrNone && len(got) != len(c.s.highs) {
			t.Error("AwardPots without pots of", c.s, "is", got, code, "and not", c.code)
		}
	}
}

// What are no payments is the first error of SettleHand, whatever the values and the first seat are, also
// where they have too few or too many seats.
func TestCodesOfSettleHand(t *testing.T) {
	all := shownLists()
	for _, p := range append(basePayments(), invalidPayments()...) {
		for _, s := range all {
			want := int64(impl.ErrNone)
			switch {
			case !arePaymentsAs(p):
				want = impl.ErrInvalid
			case !isShownAs(s, int64(len(p.paid))):
				want = impl.ErrRange
			}
			got, code := impl.SettleHand(p.paid, p.folded, s.highs, s.lows, s.first)
			if code != want || code != impl.ErrNone && len(got) != 0 {
				t.Fatal("SettleHand of", p, s, "is", got, code, "and not", want)
			}
			if code == impl.ErrNone {
				expectSettled(t, p, s)
			}
		}
	}
}

func TestBoundsOfSettleHand(t *testing.T) {
	two, good := list(5, 6), paymentsOf("..", 5, 5)
	for _, c := range []struct {
		p    payments
		s    shown
		code int64
	}{
		{good, shownOf(0, two, two), impl.ErrNone},
		{good, shownOf(1, two, none(2)), impl.ErrNone},
		{good, shownOf(2, two, two), impl.ErrRange},
		{good, shownOf(-1, two, two), impl.ErrRange},
		{good, shownOf(0, list(5), two), impl.ErrRange},
		{good, shownOf(0, list(5, 6, 7), two), impl.ErrRange},
		{good, shownOf(0, two, list(5)), impl.ErrRange},
		{good, shownOf(0, two, list(5, 6, 7)), impl.ErrRange},
		{good, shownOf(0, list(5, 6, 7), list(5, 6, 7)), impl.ErrRange},
		{good, shownOf(0, list(5), list(5)), impl.ErrRange},
		{good, shown{}, impl.ErrRange},
		{good, shownOf(0, list(5, -2), two), impl.ErrRange},
		{good, shownOf(0, two, list(-2, 5)), impl.ErrRange},
		// The values of folded seats are checked, too, and those of seats in no pot.
		{paymentsOf("..f", 5, 5, 5), shownOf(0, list(5, 6, -2), none(3)), impl.ErrRange},
		{paymentsOf("..f", 5, 5, 5), shownOf(0, none(3), list(5, 6, -2)), impl.ErrRange},
		{paymentsOf("..", 5, 0), shownOf(0, list(5, -2), none(2)), impl.ErrRange},
		{paymentsOf("..", 5, 0), shownOf(2, two, two), impl.ErrRange},
		// Six seats are the most, and two the least.
		{paymentsOf("......", 5, 5, 5, 5, 5, 5), shownOf(5, none(6), none(6)), impl.ErrNone},
		{paymentsOf(".......", 5, 5, 5, 5, 5, 5, 5), shownOf(0, none(7), none(7)), impl.ErrInvalid},
		{paymentsOf(".", 5), shownOf(0, none(1), none(1)), impl.ErrInvalid},
		{payments{}, shown{}, impl.ErrInvalid},
		// Payments are checked before all others.
		{paymentsOf("ff", 5, 5), shownOf(0, two, two), impl.ErrInvalid},
		{paymentsOf("..", 0, 0), shownOf(2, two, two), impl.ErrInvalid},
		{paymentsOf("..", -1, 5), shownOf(-1, two, two), impl.ErrInvalid},
		{paymentsOf("..", 600001, 5), shownOf(0, list(-2, 6), two), impl.ErrInvalid},
		{paymentsOf("f.", 5, 0), shownOf(0, two, list(5)), impl.ErrInvalid},
		{paymentsOf("...", 5, 5), shownOf(0, list(5), two), impl.ErrInvalid},
		{paymentsOf("..", 5), shown{}, impl.ErrInvalid},
	} {
		if got, code := impl.SettleHand(c.p.paid, c.p.folded, c.s.highs, c.s.lows, c.s.first); code != c.code || (len(got) == 0) != (code != impl.ErrNone) {
			t.Error("SettleHand of", c.p, c.s, "is", got, code, "and not", c.code)
		}
	}
}

// SettleHand may give out more than NetResult takes.
func TestNetOfGreatSettlements(t *testing.T) {
	for _, c := range []struct {
		paid []int64
		code int64
	}{
		{list(300000, 300000), impl.ErrNone},
		{list(300001, 300001), impl.ErrRange},
		{list(600000, 600000), impl.ErrRange},
	} {
		awards, code := impl.SettleHand(c.paid, []bool{false, false}, list(1, 2), none(2), 0)
		if !slices.Equal(awards, list(0, 2*c.paid[0])) || code != impl.ErrNone {
			t.Error("SettleHand of", c.paid, "is", awards, code)
		}
		if net, code := impl.NetResult(c.paid, awards); code != c.code || code != impl.ErrNone && len(net) != 0 {
			t.Error("NetResult of", c.paid, awards, "is", net, code)
		}
	}
}

// guardedPots share no memory with pots, and have known pots in their spare capacity.
func guardedPots(pots []impl.Pot) []impl.Pot {
	var long []impl.Pot
	for _, p := range pots {
		long = append(long, impl.Pot{Amount: p.Amount, Seats: guarded(p.Seats)})
	}
	return append(long, potOf(77, 3), potOf(78, 4))[:len(pots)]
}

func sameAsGuardedPots(kept, pots []impl.Pot) bool {
	for i, p := range pots {
		if kept[i].Amount != p.Amount || !sameAsGuarded(kept[i].Seats, p.Seats) {
			return false
		}
	}
	return samePots(kept[len(pots):len(pots)+2], []impl.Pot{potOf(77, 3), potOf(78, 4)})
}

// awardCalls are calls of all functions of the chapter with the same arguments.
func awardCalls(winners []int64, pots []impl.Pot, p payments, s shown) map[string]func() []int64 {
	only := func(got []int64, _ int64) []int64 { return got }
	calls := map[string]func() []int64{
		"SplitChips":  func() []int64 { return only(impl.SplitChips(11, winners, int64(len(s.highs)), s.first)) },
		"HighWinners": func() []int64 { return only(impl.HighWinners(winners, s.highs)) },
		"LowWinners":  func() []int64 { return only(impl.LowWinners(winners, s.lows)) },
		"AwardPots":   func() []int64 { return only(impl.AwardPots(pots, s.highs, s.lows, s.first)) },
		"SettleHand":  func() []int64 { return only(impl.SettleHand(p.paid, p.folded, s.highs, s.lows, s.first)) },
		"NetResult":   func() []int64 { return only(impl.NetResult(p.paid, p.paid)) },
	}
	if len(pots) > 0 {
		calls["AwardPot"] = func() []int64 { return only(impl.AwardPot(pots[0], s.highs, s.lows, s.first)) }
	}
	return calls
}

// Overwriting a result changes neither arguments nor what is returned later; and arguments, right or wrong,
// stay as they were.
func TestAwardResultsAreNewAndArgumentsStay(t *testing.T) {
	source := rand.New(rand.NewSource(136))
	all, wrong, wrongPots := append(randomPayments()[:1500], invalidPayments()...), wrongWinners(), potLists()
	for number, p := range all {
		seats := 2 + source.Intn(5)
		if len(p.paid) >= 2 && len(p.paid) <= 6 {
			seats = len(p.paid)
		}
		subsets := subsetsOf(int64(seats))
		winners, pots, s := subsets[source.Intn(len(subsets))], randomPots(source, int64(seats)), randomShown(source, seats)
		if number%4 == 3 {
			winners, pots = wrong[source.Intn(len(wrong))], wrongPots[source.Intn(len(wrongPots))]
		}
		keptWinners, keptPots := guarded(winners), guardedPots(pots)
		keptPayments, kept := payments{guarded(p.paid), guardedBools(p.folded)}, shown{guarded(s.highs), guarded(s.lows), s.first}
		for name, call := range awardCalls(keptWinners, keptPots, keptPayments, kept) {
			if !givesNewLists(call) {
				t.Fatal(name, "of", winners, pots, p, s, "shares memory")
			}
			if !sameAsGuarded(keptWinners, winners) || !sameAsGuardedPots(keptPots, pots) {
				t.Fatal(name, "has made", keptWinners, keptPots, "of", winners, pots)
			}
			if !sameAsGuarded(keptPayments.paid, p.paid) || !sameAsGuardedBools(keptPayments.folded, p.folded) {
				t.Fatal(name, "has made", keptPayments, "of", p)
			}
			if !sameAsGuarded(kept.highs, s.highs) || !sameAsGuarded(kept.lows, s.lows) {
				t.Fatal(name, "has made", kept, "of", s)
			}
		}
	}
}
