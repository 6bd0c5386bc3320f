package tests

import (
	"math"
	"math/rand"
	"slices"
	"strings"
	"testing"

	"loop.example/g00910/impl"
)

// standardRows are the standard variants, and how many hands a player has.
var standardRows = []struct {
	name    string
	variant impl.Variant
	hands   int64
}{
	{"holdem", impl.Variant{Hole: 2, Least: 0, Most: 2, Board: 5, High: true, Low: 0}, 21},
	{"omaha", impl.Variant{Hole: 4, Least: 2, Most: 2, Board: 5, High: true, Low: 0}, 60},
	{"omaha eight", impl.Variant{Hole: 4, Least: 2, Most: 2, Board: 5, High: true, Low: 1}, 60},
	{"stud", impl.Variant{Hole: 7, Least: 5, Most: 5, Board: 0, High: true, Low: 0}, 21},
	{"stud eight", impl.Variant{Hole: 7, Least: 5, Most: 5, Board: 0, High: true, Low: 1}, 21},
	{"razz", impl.Variant{Hole: 7, Least: 5, Most: 5, Board: 0, High: false, Low: 2}, 21},
	{"draw", impl.Variant{Hole: 5, Least: 5, Most: 5, Board: 0, High: true, Low: 0}, 1},
	{"deuce to seven", impl.Variant{Hole: 5, Least: 5, Most: 5, Board: 0, High: false, Low: 3}, 1},
}

// valuedAs are the only ways to have a high and a low value.
var valuedAs = []struct {
	high bool
	low  int64
}{{true, 0}, {true, 1}, {false, 1}, {false, 2}, {false, 3}}

// isVariantAs restates the document's conditions by sums, sorted lists and valuedAs.
func isVariantAs(v impl.Variant) bool {
	hasValue := false
	for _, way := range valuedAs {
		hasValue = hasValue || way.high == v.High && way.low == v.Low
	}
	return slices.IsSorted([]int64{1, v.Hole, 7}) && slices.IsSorted([]int64{0, v.Board, 5}) &&
		slices.IsSorted([]int64{0, v.Least, v.Most, v.Hole}) && v.Most <= 5 && v.Most+v.Board >= 5 && hasValue
}

// variantGrid has all variants with numbers in and just outside their ranges.
func variantGrid() []impl.Variant {
	var grid []impl.Variant
	for hole := int64(-1); hole <= 9; hole++ {
		for least := int64(-1); least <= 8; least++ {
			for most := int64(-1); most <= 8; most++ {
				for board := int64(-1); board <= 7; board++ {
					for low := int64(-1); low <= 4; low++ {
						v := impl.Variant{Hole: hole, Least: least, Most: most, Board: board, Low: low}
						grid = append(grid, v)
						v.High = true
						grid = append(grid, v)
					}
				}
			}
		}
	}
	return grid
}

// validVariants are all that there are: 377 choices of the four numbers, with five ways to be valued.
func validVariants() []impl.Variant {
	return slices.DeleteFunc(variantGrid(), func(v impl.Variant) bool { return !isVariantAs(v) })
}

// numbersOf are the fields of a variant that are numbers.
func numbersOf(v *impl.Variant) map[string]*int64 {
	return map[string]*int64{"Hole": &v.Hole, "Least": &v.Least, "Most": &v.Most, "Board": &v.Board, "Low": &v.Low}
}

// hugeVariants differ from standard ones in one number, which is far outside its range.
func hugeVariants() []impl.Variant {
	var variants []impl.Variant
	for _, row := range standardRows {
		for name := range numbersOf(&impl.Variant{}) {
			old := *numbersOf(&row.variant)[name]
			for _, number := range []int64{math.MinInt64, math.MinInt64 + 5, -1<<32 + old, 1<<32 + old, 1<<16 + old,
				256 + old, math.MaxInt64 - 5, math.MaxInt64} {
				v := row.variant
				*numbersOf(&v)[name] = number
				variants = append(variants, v)
			}
		}
	}
	return variants
}

// invalidVariants are near to valid ones, or have numbers far outside their ranges.
func invalidVariants() []impl.Variant {
	variants := append(hugeVariants(), impl.Variant{})
	for _, row := range standardRows {
		for name := range numbersOf(&impl.Variant{}) {
			for _, number := range []int64{-1, 0, 1, 2, 3, 4, 5, 6, 7, 8} {
				v := row.variant
				*numbersOf(&v)[name] = number
				variants = append(variants, v)
				v.High = !v.High
				variants = append(variants, v)
			}
		}
	}
	return slices.DeleteFunc(variants, isVariantAs)
}

// variantDeal is a variant with the cards of a player and of the board.
type variantDeal struct {
	variant impl.Variant
	hole    []int64
	board   []int64
}

func (d variantDeal) String() string {
	return textOf(d.hole) + " " + textOf(d.board)
}

func dealOf(v impl.Variant, hole, board string) variantDeal {
	return variantDeal{v, cardsWithText(hole), cardsWithText(board)}
}

// dealFrom deals the first cards of a list, which has enough of them.
func dealFrom(v impl.Variant, list []int64) variantDeal {
	return variantDeal{v, slices.Clone(list[:v.Hole]), slices.Clone(list[v.Hole : v.Hole+v.Board])}
}

// variantDeals has a deal from any part of the deck for each variant, and some from all of them for
// the standard ones.
func variantDeals() []variantDeal {
	source := rand.New(rand.NewSource(6))
	parts := cardParts()
	draw := func(v impl.Variant, part []int64) variantDeal {
		source.Shuffle(len(part), func(i, j int) { part[i], part[j] = part[j], part[i] })
		return dealFrom(v, part)
	}
	var deals []variantDeal
	for _, v := range validVariants() {
		deals = append(deals, draw(v, parts[source.Intn(len(parts))]))
	}
	for _, row := range standardRows {
		for _, part := range parts {
			for range 15 {
				deals = append(deals, draw(row.variant, part))
			}
		}
	}
	return deals
}

// handsAs looks at all sets of cards of both lists, and sorts those that are hands.
func handsAs(d variantDeal) [][]int64 {
	var places [][]int64
	for set := range 1 << (len(d.hole) + len(d.board)) {
		// In front of the places of the cards is how many of them are hole cards.
		found := []int64{0}
		for place := range len(d.hole) + len(d.board) {
			if set>>place&1 == 0 {
				continue
			}
			found = append(found, int64(place))
			if place < len(d.hole) {
				found[0]++
			}
		}
		if len(found) == 6 && found[0] >= d.variant.Least && found[0] <= d.variant.Most {
			places = append(places, found)
		}
	}
	slices.SortFunc(places, slices.Compare[[]int64])
	all := slices.Concat(d.hole, d.board)
	var hands [][]int64
	for _, found := range places {
		var hand []int64
		for _, place := range found[1:] {
			hand = append(hand, all[place])
		}
		hands = append(hands, hand)
	}
	return hands
}

// lowValueAs is the value of five cards that the low of a variant asks for.
func lowValueAs(low int64) func([]int64) int64 {
	if low == 3 {
		return deuceValueAs
	}
	return aceValueAs
}

func highValueAs(five []int64) int64 { return valueAs(highAs(five)) }

// dealtAs is what the functions are to return for a deal. A hand or value that there is not is told by
// the code that is to be returned.
type dealtAs struct {
	high, highCode int64
	low, lowCode   int64
	best           []int64
	bestCode       int64
	// several tells how many hands have the value of the best one.
	several int
}

// expectedOf finds the greatest and the least values by sorting those of all hands.
func expectedOf(d variantDeal) dealtAs {
	hands := handsAs(d)
	valuesOf := func(value func([]int64) int64) (values, sorted []int64) {
		for _, hand := range hands {
			values = append(values, value(hand))
		}
		return values, slices.Sorted(slices.Values(values))
	}
	want := dealtAs{highCode: impl.ErrState, lowCode: impl.ErrState}
	take := func(values []int64, value int64) {
		want.best = hands[slices.Index(values, value)]
		for _, other := range values {
			if other == value {
				want.several++
			}
		}
	}
	if d.variant.High {
		values, sorted := valuesOf(highValueAs)
		want.high, want.highCode = sorted[len(sorted)-1], impl.ErrNone
		take(values, want.high)
	}
	if d.variant.Low == 0 {
		return want
	}
	values, sorted := valuesOf(lowValueAs(d.variant.Low))
	if d.variant.Low == 1 && sorted[0] >= 8*28561 {
		want.lowCode = impl.ErrNotFound
	} else {
		want.low, want.lowCode = sorted[0], impl.ErrNone
	}
	if d.variant.High {
		return want
	}
	if want.bestCode = want.lowCode; want.bestCode == impl.ErrNone {
		take(values, want.low)
	}
	return want
}

// expectDealt reports values and hands that differ from what is told.
func expectDealt(t *testing.T, d variantDeal, want dealtAs) {
	t.Helper()
	if got, code := impl.HighIn(d.variant, d.hole, d.board); got != want.high || code != want.highCode {
		t.Error("HighIn of", d.variant, d.String(), "is", got, code, "and not", want.high, want.highCode)
	}
	if got, code := impl.LowIn(d.variant, d.hole, d.board); got != want.low || code != want.lowCode {
		t.Error("LowIn of", d.variant, d.String(), "is", got, code, "and not", want.low, want.lowCode)
	}
	if got, code := impl.BestHandIn(d.variant, d.hole, d.board); !slices.Equal(got, want.best) || code != want.bestCode {
		t.Error("BestHandIn of", d.variant, d.String(), "is", got, code, "and not", textOf(want.best), want.bestCode)
	}
}

// dealFunction is a function that takes a deal; its result is made lists, of which there are none for
// the zero value.
type dealFunction func(v impl.Variant, hole, board []int64) ([][]int64, int64)

func dealFunctions() map[string]dealFunction {
	listed := func(number, code int64) ([][]int64, int64) {
		if number == 0 {
			return nil, code
		}
		return [][]int64{{number}}, code
	}
	return map[string]dealFunction{
		"HandsIn": impl.HandsIn,
		"HighIn": func(v impl.Variant, hole, board []int64) ([][]int64, int64) {
			return listed(impl.HighIn(v, hole, board))
		},
		"LowIn": func(v impl.Variant, hole, board []int64) ([][]int64, int64) {
			return listed(impl.LowIn(v, hole, board))
		},
		"BestHandIn": func(v impl.Variant, hole, board []int64) ([][]int64, int64) {
			return single(impl.BestHandIn(v, hole, board))
		},
	}
}

// wrongDeals differ from a good one in the number of cards, or in one card, which is none, is there
// twice, or is in both lists.
func wrongDeals(d variantDeal) []variantDeal {
	all := slices.Concat(d.hole, d.board)
	others, _ := impl.OtherCards(all)
	var deals []variantDeal
	add := func(hole, board []int64) { deals = append(deals, variantDeal{d.variant, hole, board}) }
	add(nil, nil)
	add(nil, all)
	add(d.hole[1:], d.board)
	add(d.hole[:len(d.hole)-1], d.board)
	add(append(slices.Clone(d.hole), others[0]), d.board)
	add(append(slices.Clone(d.hole), others...), d.board)
	add(d.hole, append(slices.Clone(d.board), others[0]))
	add(d.hole, append(slices.Clone(d.board), others...))
	// As many cards as there are to be, but divided in another way.
	add(append(slices.Clone(d.hole), others[0]), d.board[min(1, len(d.board)):])
	add(d.hole[1:], append(slices.Clone(d.board), d.hole[0]))
	if len(d.board) > 0 {
		add(all, nil)
		add(d.hole, d.board[1:])
		add(d.hole, d.board[:len(d.board)-1])
		add(d.hole, nil)
	}
	for place := range all {
		wrongs := append(slices.Clone(noCards), all...)
		for _, wrong := range wrongs {
			if wrong == all[place] {
				continue
			}
			changed := slices.Clone(all)
			changed[place] = wrong
			add(changed[:len(d.hole)], changed[len(d.hole):])
		}
	}
	return deals
}

// someDeals has deals of all standard variants and of some others: with a low value only that may be
// none, with one number of hole cards or several, with no hole cards in the hands, and with hole cards
// only.
func someDeals() []variantDeal {
	deck, _ := impl.ShuffledDeck(6)
	var deals []variantDeal
	for _, row := range standardRows {
		deals = append(deals, dealFrom(row.variant, deck))
	}
	for _, v := range []impl.Variant{
		{Hole: 7, Least: 5, Most: 5, Board: 0, Low: 1}, {Hole: 7, Least: 0, Most: 5, Board: 5, High: true, Low: 1},
		{Hole: 1, Least: 0, Most: 0, Board: 5, High: true}, {Hole: 1, Least: 1, Most: 1, Board: 4, Low: 2},
		{Hole: 3, Least: 2, Most: 3, Board: 3, Low: 3}, {Hole: 5, Least: 0, Most: 5, Board: 1, High: true},
	} {
		deals = append(deals, dealFrom(v, deck))
	}
	return deals
}

func TestVariantConstants(t *testing.T) {
	if got := []int64{impl.LowNone, impl.LowEight, impl.LowAce, impl.LowDeuce}; !slices.Equal(got, []int64{0, 1, 2, 3}) {
		t.Error("the constants are", got)
	}
}

func TestStandardVariants(t *testing.T) {
	for number, row := range standardRows {
		v, code := impl.StandardVariant(int64(number))
		if v != row.variant || code != impl.ErrNone || !impl.IsVariant(v) {
			t.Error("StandardVariant of", number, "is", v, code)
		}
		if hands, code := impl.CountHands(v); hands != row.hands || code != impl.ErrNone {
			t.Error("CountHands of", row.name, "is", hands, code)
		}
		if got, ok := impl.VariantNamed(row.name); got != int64(number) || !ok {
			t.Error("VariantNamed of", row.name, "is", got, ok)
		}
	}
	for _, wrong := range []int64{-1, 8, -8, 9, 255, 256, 1 << 32, 1<<32 + 7, -1 << 32, math.MaxInt64, math.MinInt64} {
		if v, code := impl.StandardVariant(wrong); v != (impl.Variant{}) || code != impl.ErrNotFound {
			t.Error("StandardVariant of", wrong, "is", v, code)
		}
	}
}

// wrongNames are near to the names of variants.
func wrongNames() []string {
	names := []string{"", " ", "0", "omaha high", "omaha-eight", "studeight", "deuce", "to", "seven", "eight", "deuce to",
		"texas holdem", "hold'em", "razzrazz", "ace to five", "badugi"}
	for _, row := range standardRows {
		name := row.name
		names = append(names, name+"\x00", name+"\n", strings.ReplaceAll(name, " ", "  "), strings.ToUpper(name),
			name+","+name, strings.ReplaceAll(name, " ", "_"))
		for place := range len(name) + 1 {
			names = append(names, name[:place], name[place:], name[:place]+" "+name[place:])
			if place == len(name) {
				continue
			}
			front, back := name[:place], name[place+1:]
			names = append(names, front+back, front+strings.ToUpper(name[place:place+1])+back)
			for _, changed := range []byte{name[place] + 1, name[place] - 1, name[place] ^ 32, 'x', 0, 255} {
				names = append(names, front+string([]byte{changed})+back)
			}
		}
	}
	return names
}

func TestVariantNamed(t *testing.T) {
	numbers := map[string]int64{}
	for number, row := range standardRows {
		numbers[row.name] = int64(number)
	}
	for _, name := range wrongNames() {
		want, isName := numbers[name]
		if got, ok := impl.VariantNamed(name); got != want || ok != isName {
			t.Errorf("VariantNamed of %q is %d %t", name, got, ok)
		}
	}
}

func TestIsVariant(t *testing.T) {
	valid := 0
	for _, v := range variantGrid() {
		want := isVariantAs(v)
		if want {
			valid++
		}
		if impl.IsVariant(v) != want {
			t.Error("IsVariant of", v, "is not", want)
		}
	}
	if valid != 377*5 {
		t.Error("the tests' own number of valid variants is", valid)
	}
	for _, v := range invalidVariants() {
		if impl.IsVariant(v) {
			t.Error(v, "is not valid")
		}
	}
}

func TestBoundsOfVariants(t *testing.T) {
	for _, c := range []struct {
		variant impl.Variant
		want    bool
	}{
		{impl.Variant{}, false},
		{impl.Variant{Hole: 0, Least: 0, Most: 0, Board: 5, High: true}, false},
		{impl.Variant{Hole: 1, Least: 0, Most: 0, Board: 5, High: true}, true},
		{impl.Variant{Hole: 7, Least: 5, Most: 5, Board: 0, High: true}, true},
		{impl.Variant{Hole: 8, Least: 5, Most: 5, Board: 0, High: true}, false},
		{impl.Variant{Hole: 5, Least: 5, Most: 5, Board: -1, High: true}, false},
		{impl.Variant{Hole: 5, Least: 5, Most: 5, Board: 0, High: true}, true},
		{impl.Variant{Hole: 2, Least: 0, Most: 2, Board: 5, High: true}, true},
		{impl.Variant{Hole: 2, Least: 0, Most: 2, Board: 6, High: true}, false},
		{impl.Variant{Hole: 2, Least: -1, Most: 2, Board: 5, High: true}, false},
		{impl.Variant{Hole: 2, Least: 2, Most: 2, Board: 5, High: true}, true},
		{impl.Variant{Hole: 2, Least: 2, Most: 1, Board: 5, High: true}, false},
		{impl.Variant{Hole: 2, Least: 0, Most: 3, Board: 5, High: true}, false},
		{impl.Variant{Hole: 2, Least: 3, Most: 3, Board: 5, High: true}, false},
		{impl.Variant{Hole: 6, Least: 0, Most: 5, Board: 5, High: true}, true},
		{impl.Variant{Hole: 6, Least: 0, Most: 6, Board: 5, High: true}, false},
		{impl.Variant{Hole: 6, Least: 6, Most: 6, Board: 5, High: true}, false},
		{impl.Variant{Hole: 4, Least: 0, Most: 3, Board: 2, High: true}, true},
		{impl.Variant{Hole: 4, Least: 0, Most: 3, Board: 1, High: true}, false},
		{impl.Variant{Hole: 4, Least: 4, Most: 4, Board: 1, High: true}, true},
		{impl.Variant{Hole: 4, Least: 4, Most: 4, Board: 0, High: true}, false},
		{impl.Variant{Hole: 2, Least: 0, Most: 2, Board: 5, Low: impl.LowNone}, false},
		{impl.Variant{Hole: 2, Least: 0, Most: 2, Board: 5, Low: impl.LowEight}, true},
		{impl.Variant{Hole: 2, Least: 0, Most: 2, Board: 5, Low: impl.LowAce}, true},
		{impl.Variant{Hole: 2, Least: 0, Most: 2, Board: 5, Low: impl.LowDeuce}, true},
		{impl.Variant{Hole: 2, Least: 0, Most: 2, Board: 5, Low: -1}, false},
		{impl.Variant{Hole: 2, Least: 0, Most: 2, Board: 5, Low: 4}, false},
		{impl.Variant{Hole: 2, Least: 0, Most: 2, Board: 5, High: true, Low: -1}, false},
		{impl.Variant{Hole: 2, Least: 0, Most: 2, Board: 5, High: true, Low: impl.LowEight}, true},
		{impl.Variant{Hole: 2, Least: 0, Most: 2, Board: 5, High: true, Low: impl.LowAce}, false},
		{impl.Variant{Hole: 2, Least: 0, Most: 2, Board: 5, High: true, Low: impl.LowDeuce}, false},
		{impl.Variant{Hole: 2, Least: 0, Most: 2, Board: 5, High: true, Low: 4}, false},
	} {
		if impl.IsVariant(c.variant) != c.want {
			t.Error("IsVariant of", c.variant, "is not", c.want)
		}
		if hands, code := impl.CountHands(c.variant); (code == impl.ErrNone) != c.want || (hands > 0) != c.want {
			t.Error("CountHands of", c.variant, "is", hands, code)
		}
	}
}

// The lists are not sorted, so that an order by cards is another one than that by indices.
func TestKnownHandsIn(t *testing.T) {
	for _, c := range []struct {
		deal  variantDeal
		texts string
	}{
		{dealOf(impl.Variant{Hole: 2, Least: 1, Most: 2, Board: 4, High: true}, "KdAc", "5c2c4c3c"),
			"Kd5c2c4c3c Ac5c2c4c3c KdAc5c2c4c KdAc5c2c3c KdAc5c4c3c KdAc2c4c3c"},
		{dealOf(impl.Variant{Hole: 1, Least: 0, Most: 1, Board: 5, High: true}, "6h", "9cAd8sKcTd"),
			"9cAd8sKcTd 6h9cAd8sKc 6h9cAd8sTd 6h9cAdKcTd 6h9c8sKcTd 6hAd8sKcTd"},
		{dealOf(impl.Variant{Hole: 1, Least: 1, Most: 1, Board: 4, Low: 1}, "6h", "9cAd8sKc"), "6h9cAd8sKc"},
		{dealOf(impl.Variant{Hole: 3, Least: 0, Most: 0, Board: 5, Low: 3}, "2c2d2h", "9cAd8sKcTd"), "9cAd8sKcTd"},
		{dealOf(impl.Variant{Hole: 6, Least: 5, Most: 5, Board: 0, Low: 2}, "Qs3d7hJc2sTc", ""),
			"Qs3d7hJc2s Qs3d7hJcTc Qs3d7h2sTc Qs3dJc2sTc Qs7hJc2sTc 3d7hJc2sTc"},
		{dealOf(impl.Variant{Hole: 5, Least: 0, Most: 5, Board: 1, High: true}, "Qs3d7hJc2s", "Ah"),
			"Qs3d7hJcAh Qs3d7h2sAh Qs3dJc2sAh Qs7hJc2sAh 3d7hJc2sAh Qs3d7hJc2s"},
		{dealOf(impl.Variant{Hole: 3, Least: 2, Most: 2, Board: 3, High: true, Low: 1}, "Ks4d9h", "7cJh2d"),
			"Ks4d7cJh2d Ks9h7cJh2d 4d9h7cJh2d"},
		{dealOf(impl.Variant{Hole: 5, Least: 0, Most: 5, Board: 0, High: true}, "Qs3d7hJc2s", ""), "Qs3d7hJc2s"},
		{dealOf(impl.Variant{Hole: 2, Least: 0, Most: 2, Board: 3, High: true}, "3dQs", "7hJc2s"), "3dQs7hJc2s"},
	} {
		got, code := impl.HandsIn(c.deal.variant, c.deal.hole, c.deal.board)
		var texts []string
		for _, hand := range got {
			texts = append(texts, textOf(hand))
		}
		if strings.Join(texts, " ") != c.texts || code != impl.ErrNone {
			t.Error("HandsIn of", c.deal.variant, c.deal.String(), "is", texts, code)
		}
		if count, code := impl.CountHands(c.deal.variant); count != int64(len(texts)) || code != impl.ErrNone {
			t.Error("CountHands of", c.deal.variant, "is", count, code)
		}
	}
}

func TestHandsInAllVariants(t *testing.T) {
	for _, d := range variantDeals() {
		want := handsAs(d)
		if got, code := impl.HandsIn(d.variant, d.hole, d.board); !sameLists(got, want) || code != impl.ErrNone {
			t.Fatal("HandsIn of", d.variant, d.String(), "is", got, code)
		}
		if count, code := impl.CountHands(d.variant); count != int64(len(want)) || code != impl.ErrNone {
			t.Fatal("CountHands of", d.variant, "is", count, code, "and not", len(want))
		}
	}
}

func TestCountHands(t *testing.T) {
	for _, c := range []struct {
		variant impl.Variant
		want    int64
	}{
		{impl.Variant{Hole: 7, Least: 0, Most: 5, Board: 5, High: true}, 792},
		{impl.Variant{Hole: 6, Least: 0, Most: 5, Board: 5, Low: 1}, 462},
		{impl.Variant{Hole: 7, Least: 0, Most: 5, Board: 0, Low: 2}, 21},
		{impl.Variant{Hole: 7, Least: 2, Most: 3, Board: 5, Low: 3}, 560},
		{impl.Variant{Hole: 4, Least: 2, Most: 3, Board: 5, High: true, Low: 1}, 100},
		{impl.Variant{Hole: 7, Least: 0, Most: 0, Board: 5, High: true}, 1},
		{impl.Variant{Hole: 1, Least: 1, Most: 1, Board: 4, High: true}, 1},
		{impl.Variant{Hole: 1, Least: 0, Most: 1, Board: 5, High: true}, 6},
		{impl.Variant{Hole: 3, Least: 0, Most: 3, Board: 2, High: true}, 1},
	} {
		if got, code := impl.CountHands(c.variant); got != c.want || code != impl.ErrNone {
			t.Error("CountHands of", c.variant, "is", got, code, "and not", c.want)
		}
	}
	for _, v := range invalidVariants() {
		if got, code := impl.CountHands(v); got != 0 || code != impl.ErrInvalid {
			t.Error("CountHands of", v, "is", got, code)
		}
	}
}

// The deals are told with their best hands; the tests' own way has to find them as well.
func TestKnownValuesIn(t *testing.T) {
	eightOnly := impl.Variant{Hole: 7, Least: 5, Most: 5, Board: 0, Low: impl.LowEight}
	oneCard := impl.Variant{Hole: 3, Least: 1, Most: 1, Board: 4, High: true}
	for _, c := range []struct {
		deal variantDeal
		// best, high and low are texts of hands; an empty one tells that there is none.
		best, high, low string
	}{
		{dealOf(standardRows[0].variant, "AsKs", "QsJsTs2c3d"), "AsKsQsJsTs", "AsKsQsJsTs", ""},
		{dealOf(standardRows[0].variant, "2c3d", "AsKsQsJsTs"), "AsKsQsJsTs", "AsKsQsJsTs", ""},
		{dealOf(standardRows[0].variant, "AcAh", "KcKdKhKs2d"), "AcKcKdKhKs", "AcKcKdKhKs", ""},
		{dealOf(standardRows[0].variant, "AhAc", "Kc2dKhKdKs"), "AhKcKhKdKs", "AhKcKhKdKs", ""},
		{dealOf(standardRows[0].variant, "AhAc", "KcAdKhKdKs"), "KcAdKhKdKs", "KcAdKhKdKs", ""},
		{dealOf(standardRows[0].variant, "5dAd", "2c3d4hKsQc"), "5dAd2c3d4h", "5dAd2c3d4h", ""},
		{dealOf(standardRows[1].variant, "AsAdAhAc", "KcKdKhKs2c"), "AsAdKcKdKh", "AsAdKcKdKh", ""},
		{dealOf(standardRows[1].variant, "As2c3d4h", "KsQsJsTs9s"), "As4hKsQsJs", "As4hKsQsJs", ""},
		{dealOf(standardRows[1].variant, "AsKsQsJs", "Ts2c2d3h3c"), "AsKsTs3h3c", "AsKsTs3h3c", ""},
		{dealOf(standardRows[2].variant, "Ac2d9hKs", "3c4d8hKdQs"), "AcKs8hKdQs", "AcKs8hKdQs", "Ac2d3c4d8h"},
		{dealOf(standardRows[2].variant, "Ac2d9hKs", "3c4dThKdQs"), "AcKsThKdQs", "AcKsThKdQs", ""},
		{dealOf(standardRows[2].variant, "Ac2d9hKs", "Ad3c4dTsQs"), "AcKsAdTsQs", "AcKsAdTsQs", ""},
		{dealOf(standardRows[2].variant, "Ac2c3c4c", "5c6c7c8cKd"), "3c4c5c6c7c", "3c4c5c6c7c", "Ac2c5c6c7c"},
		{dealOf(standardRows[3].variant, "2cKd2dKhQs2hQd", ""), "2cKd2dKh2h", "2cKd2dKh2h", ""},
		{dealOf(standardRows[4].variant, "Ac2d3h4s8cKdKh", ""), "Ac4s8cKdKh", "Ac4s8cKdKh", "Ac2d3h4s8c"},
		{dealOf(standardRows[4].variant, "Ac2d3h4s9cKdKh", ""), "Ac4s9cKdKh", "Ac4s9cKdKh", ""},
		{dealOf(standardRows[4].variant, "As2s3s4s5sKdKh", ""), "As2s3s4s5s", "As2s3s4s5s", "As2s3s4s5s"},
		{dealOf(standardRows[5].variant, "KcKd5c4d3h2sAc", ""), "5c4d3h2sAc", "", "5c4d3h2sAc"},
		{dealOf(standardRows[5].variant, "AcAd2c2d3h4s5c", ""), "Ac2c3h4s5c", "", "Ac2c3h4s5c"},
		{dealOf(standardRows[5].variant, "KcKdKhKsQcQdQh", ""), "KcKdQcQdQh", "", "KcKdQcQdQh"},
		{dealOf(standardRows[6].variant, "TcAcJsQhKd", ""), "TcAcJsQhKd", "TcAcJsQhKd", ""},
		{dealOf(standardRows[7].variant, "7c5d4h3s2c", ""), "7c5d4h3s2c", "", "7c5d4h3s2c"},
		{dealOf(standardRows[7].variant, "5c4d3h2sAc", ""), "5c4d3h2sAc", "", "5c4d3h2sAc"},
		{dealOf(eightOnly, "8c8d7h6s5c4dKh", ""), "8c7h6s5c4d", "", "8c7h6s5c4d"},
		{dealOf(eightOnly, "9c9d7h6s5c4dKh", ""), "", "", ""},
		{dealOf(eightOnly, "KcKdQhQsJcJdTh", ""), "", "", ""},
		{dealOf(oneCard, "5s5d5h", "9c8d7h6s"), "5s9c8d7h6s", "5s9c8d7h6s", ""},
		{dealOf(oneCard, "2sTd5h", "9c8d7h6s"), "Td9c8d7h6s", "Td9c8d7h6s", ""},
	} {
		want := expectedOf(c.deal)
		if textOf(want.best) != c.best || (c.high != "") != (want.highCode == impl.ErrNone) || (c.low != "") != (want.lowCode == impl.ErrNone) {
			t.Error("the tests' own values of", c.deal.String(), "are", want)
		}
		if c.high != "" {
			want.high = highValueAs(cardsWithText(c.high))
		}
		if c.low != "" {
			want.low = lowValueAs(c.deal.variant.Low)(cardsWithText(c.low))
		}
		expectDealt(t, c.deal, want)
	}
}

func TestSomeValuesIn(t *testing.T) {
	for _, c := range []struct {
		number      int64
		hole, board string
		high, low   int64
	}{
		{0, "AsKs", "QsJsTs2c3d", 3339058, -1}, {2, "Ac2d9hKs", "3c4d8hKdQs", 711795, 206869},
		{4, "Ac2d3h4s8cKdKh", "", 711739, 206869}, {5, "KcKd5c4d3h2sAc", "", -1, 121186},
		{7, "5c4d3h2sAc", "", -1, 349674}, {7, "7c5d4h3s2c", "", -1, 149747},
	} {
		d := dealOf(standardRows[c.number].variant, c.hole, c.board)
		if got, code := impl.HighIn(d.variant, d.hole, d.board); c.high >= 0 && (got != c.high || code != impl.ErrNone) {
			t.Error("HighIn of", d.variant, d.String(), "is", got, code)
		}
		if got, code := impl.LowIn(d.variant, d.hole, d.board); c.low >= 0 && (got != c.low || code != impl.ErrNone) {
			t.Error("LowIn of", d.variant, d.String(), "is", got, code)
		}
	}
}

// The deals have to contain each of the cases that the document names, or they would not test it.
func TestValuesInAllVariants(t *testing.T) {
	seen := map[string]int{}
	for _, d := range variantDeals() {
		want := expectedOf(d)
		expectDealt(t, d, want)
		if t.Failed() {
			t.FailNow()
		}
		for name, isSeen := range map[string]bool{
			"a best hand among several":  want.several > 1,
			"a best hand alone":          want.several == 1,
			"no low beside a high":       want.highCode == impl.ErrNone && want.lowCode == impl.ErrNotFound,
			"a low beside a high":        want.highCode == impl.ErrNone && want.lowCode == impl.ErrNone,
			"no low and no high":         want.bestCode == impl.ErrNotFound,
			"an eight without a high":    !d.variant.High && d.variant.Low == 1 && want.lowCode == impl.ErrNone,
			"several equal lows":         !d.variant.High && want.several > 1,
			"a low of aces above eights": d.variant.Low == 2 && want.low >= 8*28561,
		} {
			if isSeen {
				seen[name]++
			}
		}
	}
	if len(seen) != 8 {
		t.Error("the deals have", seen)
	}
}

// The values are compared with what the program itself gives for hands that it lists itself.
func TestValuesAreThoseOfHands(t *testing.T) {
	for _, d := range variantDeals() {
		hands, code := impl.HandsIn(d.variant, d.hole, d.board)
		if code != impl.ErrNone || len(hands) == 0 {
			t.Fatal("HandsIn of", d.variant, d.String(), "is", hands, code)
		}
		best, _ := impl.BestHandIn(d.variant, d.hole, d.board)
		if high, code := impl.HighIn(d.variant, d.hole, d.board); code == impl.ErrNone {
			if greatest := valuesWith(t, impl.HighValue, hands)[len(hands)-1]; high != greatest {
				t.Error("HighIn of", d.variant, d.String(), "is", high, "and not", greatest)
			}
			if value, _ := impl.HighValue(best); value != high {
				t.Error("BestHandIn of", d.variant, d.String(), "has the value", value, "and not", high)
			}
		}
		if low, code := impl.LowIn(d.variant, d.hole, d.board); code == impl.ErrNone {
			lowValue := impl.AceValue
			if d.variant.Low == impl.LowDeuce {
				lowValue = impl.DeuceValue
			}
			if least := valuesWith(t, lowValue, hands)[0]; low != least {
				t.Error("LowIn of", d.variant, d.String(), "is", low, "and not", least)
			}
			if value, _ := lowValue(best); !d.variant.High && value != low {
				t.Error("BestHandIn of", d.variant, d.String(), "has the value", value, "and not", low)
			}
		}
	}
}

// valuesWith returns the values of some hands in increasing order.
func valuesWith(t *testing.T, valueOf func([]int64) (int64, int64), hands [][]int64) []int64 {
	t.Helper()
	var values []int64
	for _, hand := range hands {
		value, code := valueOf(hand)
		if code != impl.ErrNone {
			t.Error("the value of", hand, "is", value, code)
		}
		values = append(values, value)
	}
	slices.Sort(values)
	return values
}

// Without a board, the values are those of chapters 4 and 5 for as many cards; with all numbers of hole
// cards, those for all cards together.
func TestVariantsWithoutConditions(t *testing.T) {
	source := rand.New(rand.NewSource(66))
	for _, part := range cardParts() {
		for _, sizes := range [][2]int64{{5, 0}, {6, 0}, {7, 0}, {2, 5}, {3, 5}, {1, 5}, {4, 3}, {5, 3}, {4, 4}} {
			source.Shuffle(len(part), func(i, j int) { part[i], part[j] = part[j], part[i] })
			v := impl.Variant{Hole: sizes[0], Least: 0, Most: min(sizes[0], 5), Board: sizes[1], High: true}
			d := dealFrom(v, part)
			all := slices.Concat(d.hole, d.board)
			want, _ := impl.BestHigh(all)
			expectDealtValue(t, "HighIn", impl.HighIn, d, want, impl.ErrNone)
			d.variant.High, d.variant.Low = false, impl.LowDeuce
			want, _ = impl.BestDeuce(all)
			expectDealtValue(t, "LowIn", impl.LowIn, d, want, impl.ErrNone)
			d.variant.Low = impl.LowAce
			want, _ = impl.BestAce(all)
			expectDealtValue(t, "LowIn", impl.LowIn, d, want, impl.ErrNone)
			d.variant.Low = impl.LowEight
			if impl.IsEightOrBetter(want) {
				expectDealtValue(t, "LowIn", impl.LowIn, d, want, impl.ErrNone)
			} else {
				expectDealtValue(t, "LowIn", impl.LowIn, d, 0, impl.ErrNotFound)
			}
		}
	}
}

func expectDealtValue(t *testing.T, name string, call func(impl.Variant, []int64, []int64) (int64, int64), d variantDeal, value, code int64) {
	t.Helper()
	if got, gotCode := call(d.variant, d.hole, d.board); got != value || gotCode != code {
		t.Error(name, "of", d.variant, d.String(), "is", got, gotCode, "and not", value, code)
	}
}

// The boundary of the lows that count: eight or better is told by the greatest of the low ranks, and
// by all ranks being different.
func TestLowsThatCount(t *testing.T) {
	for _, high := range []bool{false, true} {
		v := impl.Variant{Hole: 5, Least: 5, Most: 5, Board: 0, High: high, Low: impl.LowEight}
		for text, want := range map[string]int64{
			"8c7d6h5s4c": 214009, "8c7c6c5c4c": 214009, "8c4d3h2sAc": 206869, "5c4d3h2sAc": 121186,
		} {
			expectDealtValue(t, "LowIn", impl.LowIn, dealOf(v, text, ""), want, impl.ErrNone)
		}
		for _, text := range []string{"9c4d3h2sAc", "9c8d7h6s5c", "Kc4d3h2sAc", "AcAd3h2s4c", "8c8d7h6s5c", "2c2d2hAsAc"} {
			expectDealtValue(t, "LowIn", impl.LowIn, dealOf(v, text, ""), 0, impl.ErrNotFound)
		}
	}
}

func TestValuesThatAreNotAskedFor(t *testing.T) {
	for _, d := range someDeals() {
		if !d.variant.High {
			expectDealtValue(t, "HighIn", impl.HighIn, d, 0, impl.ErrState)
		}
		if d.variant.Low == impl.LowNone {
			expectDealtValue(t, "LowIn", impl.LowIn, d, 0, impl.ErrState)
		}
	}
}

func TestOrderOfDealsDoesNotMatter(t *testing.T) {
	source := rand.New(rand.NewSource(666))
	for _, d := range variantDeals() {
		other := variantDeal{d.variant, slices.Clone(d.hole), slices.Clone(d.board)}
		source.Shuffle(len(other.hole), func(i, j int) { other.hole[i], other.hole[j] = other.hole[j], other.hole[i] })
		source.Shuffle(len(other.board), func(i, j int) { other.board[i], other.board[j] = other.board[j], other.board[i] })
		high, highCode := impl.HighIn(d.variant, d.hole, d.board)
		expectDealtValue(t, "HighIn", impl.HighIn, other, high, highCode)
		low, lowCode := impl.LowIn(d.variant, d.hole, d.board)
		expectDealtValue(t, "LowIn", impl.LowIn, other, low, lowCode)
	}
}

func TestWrongCardsOfDeals(t *testing.T) {
	for _, d := range someDeals() {
		for _, wrong := range wrongDeals(d) {
			for name, function := range dealFunctions() {
				if got, code := function(wrong.variant, wrong.hole, wrong.board); len(got) != 0 || code != impl.ErrRange {
					t.Fatal(name, "of", wrong.variant, wrong.hole, wrong.board, "is", got, code)
				}
			}
		}
	}
}

// The error of a variant that is not valid comes first, whatever the cards are.
func TestInvalidVariantsComeFirst(t *testing.T) {
	var deals []variantDeal
	for _, d := range someDeals() {
		deals = append(deals, d)
		wrongs := wrongDeals(d)
		deals = append(deals, wrongs[:12]...)
		deals = append(deals, wrongs[len(wrongs)-3:]...)
	}
	for _, v := range invalidVariants() {
		fitting := variantDeal{v, wholeDeck()[:min(max(v.Hole, 0), 20)], wholeDeck()[20 : 20+min(max(v.Board, 0), 20)]}
		for _, d := range append(deals, fitting) {
			for name, function := range dealFunctions() {
				if got, code := function(v, d.hole, d.board); len(got) != 0 || code != impl.ErrInvalid {
					t.Fatal(name, "of", v, d.hole, d.board, "is", got, code)
				}
			}
		}
	}
}

func TestNilAndEmptyBoards(t *testing.T) {
	for _, d := range someDeals() {
		if len(d.board) != 0 {
			continue
		}
		for name, function := range dealFunctions() {
			first, firstCode := function(d.variant, d.hole, nil)
			second, secondCode := function(d.variant, d.hole, []int64{})
			if !sameLists(first, second) || firstCode != secondCode {
				t.Error(name, "of", d.variant, d.String(), "is", first, firstCode, "for nil and", second, secondCode)
			}
		}
	}
}

func TestDealArgumentsStay(t *testing.T) {
	deals := variantDeals()
	for _, d := range someDeals() {
		deals = append(deals, wrongDeals(d)...)
	}
	for _, d := range deals {
		hole, board := guarded(d.hole), guarded(d.board)
		for name, function := range dealFunctions() {
			function(d.variant, hole, board)
			if !sameAsGuarded(hole, d.hole) || !sameAsGuarded(board, d.board) {
				t.Fatal(name, "of", d.hole, d.board, "has changed them to", hole[:len(hole)+3], board[:len(board)+3])
			}
		}
	}
}

func TestDealResultsAreNew(t *testing.T) {
	for _, d := range someDeals() {
		hole, board := guarded(d.hole), guarded(d.board)
		for name, function := range dealFunctions() {
			call := func() [][]int64 { got, _ := function(d.variant, hole, board); return got }
			if !givesSeparateLists(call) || !sameAsGuarded(hole, d.hole) || !sameAsGuarded(board, d.board) {
				t.Error(name, "shares memory")
			}
		}
	}
}
