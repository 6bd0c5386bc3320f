package tests

import (
	"math"
	"math/rand"
	"slices"
	"strings"
	"testing"

	"loop.example/g00910/impl"
)

// allClasses has the texts of all classes in the order of their numbers, written out so that no rule
// of the program is repeated.
const allClasses = "22 32o 42o 52o 62o 72o 82o 92o T2o J2o Q2o K2o A2o " +
	"32s 33 43o 53o 63o 73o 83o 93o T3o J3o Q3o K3o A3o " +
	"42s 43s 44 54o 64o 74o 84o 94o T4o J4o Q4o K4o A4o " +
	"52s 53s 54s 55 65o 75o 85o 95o T5o J5o Q5o K5o A5o " +
	"62s 63s 64s 65s 66 76o 86o 96o T6o J6o Q6o K6o A6o " +
	"72s 73s 74s 75s 76s 77 87o 97o T7o J7o Q7o K7o A7o " +
	"82s 83s 84s 85s 86s 87s 88 98o T8o J8o Q8o K8o A8o " +
	"92s 93s 94s 95s 96s 97s 98s 99 T9o J9o Q9o K9o A9o " +
	"T2s T3s T4s T5s T6s T7s T8s T9s TT JTo QTo KTo ATo " +
	"J2s J3s J4s J5s J6s J7s J8s J9s JTs JJ QJo KJo AJo " +
	"Q2s Q3s Q4s Q5s Q6s Q7s Q8s Q9s QTs QJs QQ KQo AQo " +
	"K2s K3s K4s K5s K6s K7s K8s K9s KTs KJs KQs KK AKo " +
	"A2s A3s A4s A5s A6s A7s A8s A9s ATs AJs AQs AKs AA"

// classTexts returns the text of each class at its number.
func classTexts() []string {
	return strings.Fields(allClasses)
}

// classNumbers returns the number of each class by its text.
func classNumbers() map[string]int64 {
	numbers := map[string]int64{}
	for class, text := range classTexts() {
		numbers[text] = int64(class)
	}
	return numbers
}

// noClasses are numbers that are no classes, also ones that would be classes if only some bits counted.
var noClasses = []int64{-1, -2, -13, -168, -169, 169, 170, 182, 255, 256, 256 + 167, 1<<16 + 1, 1<<32 + 167, -1 << 32,
	1<<63 - 64, math.MaxInt64, math.MinInt64, math.MinInt64 + 167}

// classTextAs finds the class of two different cards by their texts.
func classTextAs(a, b int64) string {
	first, second := textOf([]int64{a}), textOf([]int64{b})
	text := first[:1] + second[:1]
	if strings.IndexByte("AKQJT98765432", second[0]) < strings.IndexByte("AKQJT98765432", first[0]) {
		text = second[:1] + first[:1]
	}
	switch {
	case first[0] == second[0]:
		return text
	case first[1] == second[1]:
		return text + "s"
	}
	return text + "o"
}

// combosAs looks at all sets of two cards.
func combosAs(text string, dead []int64) [][]int64 {
	var combos [][]int64
	for a := range int64(52) {
		for b := a + 1; b < 52; b++ {
			if classTextAs(a, b) == text && !slices.Contains(dead, a) && !slices.Contains(dead, b) {
				combos = append(combos, []int64{a, b})
			}
		}
	}
	return combos
}

// suitLetters are all 24 ways to write the four suits.
func suitLetters() []string {
	var letters []string
	for _, order := range orders([]int64{0, 1, 2, 3}) {
		text := ""
		for _, suit := range order {
			text += "cdhs"[suit : suit+1]
		}
		letters = append(letters, text)
	}
	return letters
}

// exchangedAs exchanges the suits in the text of cards, in the order of the list.
func exchangedAs(list []int64, letters string) []int64 {
	exchange := strings.NewReplacer("c", letters[0:1], "d", letters[1:2], "h", letters[2:3], "s", letters[3:4])
	return cardsWithText(exchange.Replace(textOf(list)))
}

// exchangesAs returns what cards become in all 24 ways, each once, in lexicographic order.
func exchangesAs(list []int64) [][]int64 {
	var lists [][]int64
	for _, letters := range suitLetters() {
		lists = append(lists, slices.Sorted(slices.Values(exchangedAs(list, letters))))
	}
	slices.SortFunc(lists, slices.Compare)
	return slices.CompactFunc(lists, slices.Equal)
}

// exchangedLists are lists of all lengths, and ones in which some suits have the same ranks.
func exchangedLists() [][]int64 {
	lists := [][]int64{nil, {}, wholeDeck()}
	for a := range int64(52) {
		lists = append(lists, []int64{a}, []int64{a, (a + 1) % 52}, []int64{(a + 4) % 52, a}, []int64{a, (a + 17) % 52})
	}
	source := rand.New(rand.NewSource(7))
	for _, part := range cardParts() {
		lists = append(lists, slices.Clone(part))
		for length := range len(part) {
			source.Shuffle(len(part), func(i, j int) { part[i], part[j] = part[j], part[i] })
			lists = append(lists, slices.Clone(part[:length]))
		}
	}
	for _, text := range []string{"AcAd", "KsKh", "2c2d2h", "AhKhAsKs", "2c3c2d3d2h3h", "2c3c2d3d2h3h2s3s", "2c3c2d3d2h4h2s4s",
		"Ac2dAd2c3h", "5s6s5h6h5d7d", "TcJcTdJdQcQd9h", "KcKdKhKsQcQdQh", "AsKhQdJc", "AsAhKdKc"} {
		lists = append(lists, orders(cardsWithText(text)[:min(len(text)/2, 4)])...)
		lists = append(lists, cardsWithText(text))
	}
	return lists
}

// setsOf returns all sets of size of the cards from first on, in increasing order.
func setsOf(size int, first int64) [][]int64 {
	if size == 0 {
		return [][]int64{nil}
	}
	var sets [][]int64
	for card := first; card < 52; card++ {
		for _, rest := range setsOf(size-1, card+1) {
			sets = append(sets, append([]int64{card}, rest...))
		}
	}
	return sets
}

// deadLists are lists of cards: none, all, each single one, all of a rank or of a suit, and random ones.
func deadLists() [][]int64 {
	deck := wholeDeck()
	lists := append(cardParts(), nil, []int64{}, deck, slices.Clone(deck[1:]), slices.Clone(deck[:51]))
	for card := range int64(52) {
		lists = append(lists, []int64{card})
	}
	for rank := range 13 {
		lists = append(lists, slices.Clone(deck[4*rank:4*rank+4]), slices.Clone(deck[4*rank:4*rank+2]))
	}
	source := rand.New(rand.NewSource(77))
	for length := range 52 {
		source.Shuffle(len(deck), func(i, j int) { deck[i], deck[j] = deck[j], deck[i] })
		lists = append(lists, slices.Clone(deck[:length]))
	}
	return lists
}

func TestClassConstant(t *testing.T) {
	if impl.ClassCount != 169 || len(classTexts()) != 169 {
		t.Error("the constant is", int64(impl.ClassCount))
	}
}

func TestClassesAreRecovered(t *testing.T) {
	for class, want := range classTexts() {
		text, code := impl.ClassText(int64(class))
		if text != want || code != impl.ErrNone {
			t.Error("ClassText of", class, "is", text, code)
		}
		got, code := impl.ReadClass(want)
		if got != int64(class) || code != impl.ErrNone {
			t.Error("ReadClass of", want, "is", got, code)
		}
	}
}

func TestSomeClasses(t *testing.T) {
	for _, c := range []struct {
		class        int64
		text, cards  string
		suited, pair bool
	}{
		{0, "22", "2c2d", false, true},
		{1, "32o", "2s3c", false, false},
		{12, "A2o", "2hAd", false, false},
		{13, "32s", "3h2h", true, false},
		{14, "33", "3s3h", false, true},
		{84, "88", "8d8s", false, true},
		{112, "TT", "ThTc", false, true},
		{113, "JTo", "JhTs", false, false},
		{125, "JTs", "JdTd", true, false},
		{154, "KK", "KdKh", false, true},
		{155, "AKo", "KcAs", false, false},
		{156, "A2s", "2cAc", true, false},
		{167, "AKs", "AsKs", true, false},
		{168, "AA", "AhAs", false, true},
	} {
		if got, code := impl.ClassOf(cardsWithText(c.cards)); got != c.class || code != impl.ErrNone {
			t.Error("ClassOf of", c.cards, "is", got, code)
		}
		if got, code := impl.ClassText(c.class); got != c.text || code != impl.ErrNone {
			t.Error("ClassText of", c.class, "is", got, code)
		}
		if got, code := impl.ReadClass(c.text); got != c.class || code != impl.ErrNone {
			t.Error("ReadClass of", c.text, "is", got, code)
		}
		if suited, pair, code := impl.IsSuited(c.class); suited != c.suited || pair != c.pair || code != impl.ErrNone {
			t.Error("IsSuited of", c.class, "is", suited, pair, code)
		}
	}
}

func TestIsSuited(t *testing.T) {
	suitedClasses, pairs := 0, 0
	for class, text := range classTexts() {
		suited, pair, code := impl.IsSuited(int64(class))
		if suited != strings.HasSuffix(text, "s") || pair != (len(text) == 2) || code != impl.ErrNone {
			t.Error("IsSuited of", text, "is", suited, pair, code)
		}
		if suited {
			suitedClasses++
		}
		if pair {
			pairs++
		}
	}
	if suitedClasses != 78 || pairs != 13 {
		t.Error("there are", suitedClasses, "suited classes and", pairs, "pairs")
	}
}

// Each two cards are in the combinations of their class and of no other one.
func TestClassOfAllPairsOfCards(t *testing.T) {
	counts := map[int64]int{}
	for a := range int64(52) {
		for b := range int64(52) {
			if a == b {
				continue
			}
			got, code := impl.ClassOf([]int64{a, b})
			if code != impl.ErrNone || got < 0 || got >= 169 || classTexts()[got] != classTextAs(a, b) {
				t.Fatal("ClassOf of", textOf([]int64{a, b}), "is", got, code)
			}
			counts[got]++
		}
	}
	for class, text := range classTexts() {
		want := map[string]int{"": 6, "s": 4, "o": 12}[text[2:]]
		// Both orders of two cards have been counted.
		if counts[int64(class)] != 2*want {
			t.Error(text, "has", counts[int64(class)], "ordered combinations and not", 2*want)
		}
	}
}

func TestClassOfNoTwoCards(t *testing.T) {
	lists := append(wrongLists(2, 2), []int64{0}, []int64{51}, []int64{0, 1, 2}, []int64{49, 50, 51}, []int64{51, 51},
		[]int64{-1, 0}, []int64{0, -1}, []int64{51, 52}, []int64{52, 51}, []int64{-1, 52}, []int64{0, 0, 1}, []int64{0, 1, 1})
	for _, list := range lists {
		expectCode(t, "ClassOf", list, impl.ClassOf, 0, impl.ErrInvalid)
	}
}

func TestCombosOfAllClasses(t *testing.T) {
	total := 0
	for class, text := range classTexts() {
		want := combosAs(text, nil)
		got, code := impl.CombosOf(int64(class))
		if !sameLists(got, want) || code != impl.ErrNone {
			t.Error("CombosOf of", text, "is", got, code)
		}
		if size := map[string]int{"": 6, "s": 4, "o": 12}[text[2:]]; len(got) != size {
			t.Error(text, "has", len(got), "combinations and not", size)
		}
		if !slices.IsSortedFunc(got, slices.Compare) {
			t.Error("CombosOf of", text, "is", got)
		}
		for _, combo := range got {
			if back, code := impl.ClassOf(combo); len(combo) != 2 || combo[0] >= combo[1] || back != int64(class) || code != impl.ErrNone {
				t.Error("CombosOf of", text, "has", combo)
			}
		}
		total += len(got)
	}
	if total != 1326 {
		t.Error("all classes together have", total, "combinations")
	}
}

func TestKnownCombos(t *testing.T) {
	for _, c := range []struct{ text, dead, combos string }{
		{"22", "", "2c2d 2c2h 2c2s 2d2h 2d2s 2h2s"},
		{"AKs", "", "KcAc KdAd KhAh KsAs"},
		{"AKo", "", "KcAd KcAh KcAs KdAc KdAh KdAs KhAc KhAd KhAs KsAc KsAd KsAh"},
		{"32s", "", "2c3c 2d3d 2h3h 2s3s"},
		{"AKs", "AsKd", "KcAc KhAh"},
		{"AKs", "QsQd", "KcAc KdAd KhAh KsAs"},
		{"AKo", "KcKdKhAc", "KsAd KsAh"},
		{"AKo", "KcKdKhAdAhAs", "KsAc"},
		{"AKo", "KcKdKhAcAdAh", ""},
		{"AKs", "KsKdAcAh", ""},
		{"AA", "Ah", "AcAd AcAs AdAs"},
		{"AA", "AdAh", "AcAs"},
		{"AA", "AsAdAh", ""},
		{"AA", allTexts, ""},
		{"AA", allTexts[:102], ""},
		{"AA", allTexts[:100], "AhAs"},
		{"AA", allTexts[:96], "AcAd AcAh AcAs AdAh AdAs AhAs"},
	} {
		got, code := impl.CombosWithout(classNumbers()[c.text], cardsWithText(c.dead))
		var texts []string
		for _, combo := range got {
			texts = append(texts, textOf(combo))
		}
		if strings.Join(texts, " ") != c.combos || code != impl.ErrNone {
			t.Error("CombosWithout of", c.text, c.dead, "is", texts, code)
		}
	}
}

func TestCombosWithout(t *testing.T) {
	for class, text := range classTexts() {
		all := combosAs(text, nil)
		for _, dead := range deadLists() {
			want := slices.DeleteFunc(copyOf(all), func(combo []int64) bool {
				return slices.Contains(dead, combo[0]) || slices.Contains(dead, combo[1])
			})
			if got, code := impl.CombosWithout(int64(class), dead); !sameLists(got, want) || code != impl.ErrNone {
				t.Fatal("CombosWithout of", text, textOf(dead), "is", got, code)
			}
		}
	}
}

func TestCombosWithoutNoCards(t *testing.T) {
	for _, dead := range invalidLists() {
		for _, class := range []int64{0, 1, 13, 84, 155, 167, 168} {
			if got, code := impl.CombosWithout(class, dead); len(got) != 0 || code != impl.ErrInvalid {
				t.Error("CombosWithout of", class, dead, "is", got, code)
			}
		}
	}
}

// The error of a class that is none comes first, whatever the dead cards are.
func TestNumbersThatAreNoClasses(t *testing.T) {
	deads := append(invalidLists(), nil, []int64{}, []int64{0}, wholeDeck())
	for _, class := range noClasses {
		if text, code := impl.ClassText(class); text != "" || code != impl.ErrRange {
			t.Error("ClassText of", class, "is", text, code)
		}
		if got, code := impl.CombosOf(class); len(got) != 0 || code != impl.ErrRange {
			t.Error("CombosOf of", class, "is", got, code)
		}
		if suited, pair, code := impl.IsSuited(class); suited || pair || code != impl.ErrRange {
			t.Error("IsSuited of", class, "is", suited, pair, code)
		}
		for _, dead := range deads {
			if got, code := impl.CombosWithout(class, dead); len(got) != 0 || code != impl.ErrRange {
				t.Error("CombosWithout of", class, dead, "is", got, code)
			}
		}
	}
}

// expectClassText compares ReadClass of any string with the written texts.
func expectClassText(t *testing.T, numbers map[string]int64, s string) {
	t.Helper()
	want, isText := numbers[s]
	wantCode := int64(impl.ErrSyntax)
	if isText {
		wantCode = impl.ErrNone
	}
	if got, code := impl.ReadClass(s); got != want || code != wantCode {
		t.Errorf("ReadClass of %q is %d %d and not %d %d", s, got, code, want, wantCode)
	}
}

func TestReadClassRejects(t *testing.T) {
	for _, s := range []string{
		"", "A", "2", "s", "o", " ", "\x00", "AK", "KA", "32", "23", "T9", "KAs", "KAo", "23s", "23o", "9Ts", "TJo", "QAs",
		"AAs", "AAo", "22s", "22o", "TTs", "AKS", "AKO", "aks", "AkS", "aKs", "Aks", "ako", "tt", "aa", "jTs", "JtO", "AK0",
		"sAK", "AsK", "oAK", "AsKs", "AhKd", "AsAd", "AcAd", "As", "Ah", "ss", "oo", "so", "sso", "10", "10s", "T0s", "1Ts",
		"A1s", "0", "11", "00", "XXs", "XX", "AXs", "XAs", "??", "A?s", "AK?", "AKx", "AKc", "AKh", "AKd", "AK ", " AK",
		"AKs ", " AKs", "A Ks", "AK s", "AKs\n", "\nAKs", "AKs\x00", "AA ", " AA", "AA\n", "AA\x00", "A\x00s", "AKss", "AKso",
		"AKos", "AKoo", "AAA", "AKQ", "AKA", "AAK", "AKs,AKo", "AA,KK", "AK+", "AA+", "AKs+", "QQ-JJ", "167", "0", "168",
		"ÁK", "ＡＫs", "♠", "AK♠", "é", "AK\xff", "\xffKs", "A\xffs", "AKsAKs", "AAAA", strings.Repeat("A", 1000),
		strings.Repeat("AKs", 1000), allClasses, strings.Repeat(" ", 3),
	} {
		if got, code := impl.ReadClass(s); got != 0 || code != impl.ErrSyntax {
			t.Errorf("ReadClass of %q is %d %d", s, got, code)
		}
	}
}

func TestReadClassOfShortStrings(t *testing.T) {
	numbers := classNumbers()
	for first := range 256 {
		expectClassText(t, numbers, string([]byte{byte(first)}))
		for second := range 256 {
			expectClassText(t, numbers, string([]byte{byte(first), byte(second)}))
		}
	}
	const characters = "23456789TJQKAso01tjqkaSOcdh+- \x00"
	for _, first := range characters {
		for _, second := range characters {
			for _, third := range characters {
				expectClassText(t, numbers, string([]rune{first, second, third}))
			}
		}
	}
}

// The texts of classes are tried with one byte left out, added or changed.
func TestReadClassOfChangedTexts(t *testing.T) {
	numbers := classNumbers()
	for _, text := range classTexts() {
		for place := range len(text) + 1 {
			front, back := text[:place], text[place:]
			for b := range 256 {
				changed := string([]byte{byte(b)})
				expectClassText(t, numbers, front+changed+back)
				if back != "" {
					expectClassText(t, numbers, front+changed+back[1:])
				}
			}
			if back != "" {
				expectClassText(t, numbers, front+back[1:])
			}
		}
	}
}

func TestKnownCanonicalCards(t *testing.T) {
	for _, c := range []struct {
		text, canonical string
		orbit           int64
	}{
		{"", "", 1},
		{"2c", "2c", 4},
		{"2s", "2c", 4},
		{"As", "Ac", 4},
		{"AsKs", "KcAc", 4},
		{"AsKd", "KcAd", 12},
		{"KsAh", "KcAd", 12},
		{"AhAs", "AcAd", 6},
		{"AsAhAd", "AcAdAh", 4},
		{"AhAcAsAd", "AcAdAhAs", 1},
		{"2h2s3s", "2c2d3c", 12},
		{"2h2s3h", "2c2d3c", 12},
		{"2h2s3d", "2c2d3h", 12},
		{"2h2s3s3h", "2c2d3c3d", 6},
		{"2h2s3s3d", "2c2d3c3h", 24},
		{"3h3s2s", "2c3c3d", 12},
		{"2s3h4d5c", "2c3d4h5s", 24},
		{"2s3h4d", "2c3d4h", 24},
		{"AsKhQdJc", "JcQdKhAs", 24},
		{"AsKsQhJh", "JcQcKdAd", 12},
		{"AsAhKsKh", "KcKdAcAd", 6},
		{"Ks2h", "2cKd", 12},
		{"2s3s4s2h3h4h2d3d4d", "2c2d2h3c3d3h4c4d4h", 4},
		{"2s3s4h5h6d7d8c9c", "2c3c4d5d6h7h8s9s", 24},
		{"2s3s2h3h4d5d4c5c", "2c2d3c3d4h4s5h5s", 6},
		{"2s3s4s5s6s7s8s9sTsJsQsKsAs", "2c3c4c5c6c7c8c9cTcJcQcKcAc", 4},
		{allTexts, allTexts, 1},
		{allTexts[2:], strings.Replace(allTexts, "2s", "", 1), 4},
		{allTexts[:102], allTexts[:102], 4},
	} {
		list := cardsWithText(c.text)
		expectList(t, "CanonicalCards", list, impl.CanonicalCards, cardsWithText(c.canonical), impl.ErrNone)
		expectCode(t, "SuitOrbit", list, impl.SuitOrbit, c.orbit, impl.ErrNone)
	}
}

func TestCanonicalCardsAndOrbits(t *testing.T) {
	for _, list := range exchangedLists() {
		want := exchangesAs(list)
		expectList(t, "CanonicalCards", list, impl.CanonicalCards, want[0], impl.ErrNone)
		expectCode(t, "SuitOrbit", list, impl.SuitOrbit, int64(len(want)), impl.ErrNone)
		if orbit, _ := impl.SuitOrbit(list); orbit < 1 || 24%orbit != 0 {
			t.Error("SuitOrbit of", textOf(list), "is", orbit)
		}
	}
}

// Neither exchanging suits nor another order of the cards changes what is canonical.
func TestExchangesDoNotMatter(t *testing.T) {
	source := rand.New(rand.NewSource(777))
	for _, list := range exchangedLists() {
		canonical, code := impl.CanonicalCards(list)
		if code != impl.ErrNone || !slices.IsSorted(canonical) || len(canonical) != len(list) {
			t.Fatal("CanonicalCards of", textOf(list), "is", canonical, code)
		}
		expectList(t, "CanonicalCards", canonical, impl.CanonicalCards, canonical, impl.ErrNone)
		orbit, code := impl.SuitOrbit(list)
		if code != impl.ErrNone {
			t.Fatal("SuitOrbit of", textOf(list), "is", orbit, code)
		}
		for _, letters := range suitLetters() {
			exchanged := exchangedAs(list, letters)
			source.Shuffle(len(exchanged), func(i, j int) { exchanged[i], exchanged[j] = exchanged[j], exchanged[i] })
			expectList(t, "CanonicalCards", exchanged, impl.CanonicalCards, canonical, impl.ErrNone)
			expectCode(t, "SuitOrbit", exchanged, impl.SuitOrbit, orbit, impl.ErrNone)
		}
	}
}

// All sets of a size fall apart into the known numbers of canonical ones, whose orbits are all sets.
func TestCanonicalCardsOfAllSets(t *testing.T) {
	for size, want := range []int{1, 13, 169, 1755} {
		sets := setsOf(size, 0)
		found := map[string]int64{}
		for _, set := range sets {
			canonical, code := impl.CanonicalCards(set)
			orbit, orbitCode := impl.SuitOrbit(set)
			if code != impl.ErrNone || orbitCode != impl.ErrNone {
				t.Fatal("CanonicalCards and SuitOrbit of", textOf(set), "return", code, orbitCode)
			}
			if before, known := found[textOf(canonical)]; known && before != orbit {
				t.Error("SuitOrbit of", textOf(set), "is", orbit, "and not", before)
			}
			found[textOf(canonical)] = orbit
		}
		total := int64(0)
		for _, orbit := range found {
			total += orbit
		}
		if len(found) != want || total != int64(len(sets)) {
			t.Error("there are", len(found), "canonical sets of", size, "cards, with orbits of", total)
		}
	}
}

// The combinations of a class are one orbit.
func TestClassesAreOrbits(t *testing.T) {
	for class, text := range classTexts() {
		combos, _ := impl.CombosOf(int64(class))
		for _, combo := range combos {
			expectList(t, "CanonicalCards", combo, impl.CanonicalCards, combos[0], impl.ErrNone)
			expectCode(t, "SuitOrbit", combo, impl.SuitOrbit, int64(len(combos)), impl.ErrNone)
		}
		if len(combos) == 0 {
			t.Error(text, "has no combinations")
		}
	}
}

func TestCanonicalCardsOfNoCards(t *testing.T) {
	for _, list := range invalidLists() {
		expectList(t, "CanonicalCards", list, impl.CanonicalCards, nil, impl.ErrInvalid)
		expectCode(t, "SuitOrbit", list, impl.SuitOrbit, 0, impl.ErrInvalid)
	}
}

func TestClassArgumentsStay(t *testing.T) {
	lists := slices.Concat(exchangedLists(), deadLists(), invalidLists(), wrongLists(2, 2))
	for a := range int64(52) {
		lists = append(lists, []int64{51 - a, 0}, []int64{0, 51 - a})
	}
	for _, list := range lists {
		kept := guarded(list)
		impl.ClassOf(kept)
		impl.CanonicalCards(kept)
		impl.SuitOrbit(kept)
		for _, class := range []int64{0, 13, 155, 168, 169} {
			impl.CombosWithout(class, kept)
		}
		if !sameAsGuarded(kept, list) {
			t.Error(list, "has become", kept[:len(list)+3])
		}
	}
}

func TestClassResultsAreNew(t *testing.T) {
	for class, text := range classTexts() {
		if !givesSeparateLists(func() [][]int64 { got, _ := impl.CombosOf(int64(class)); return got }) {
			t.Error("CombosOf of", text, "shares memory")
		}
		for _, dead := range [][]int64{nil, {1, 50}, {0, 17, 34, 51}} {
			kept := guarded(dead)
			call := func() [][]int64 { got, _ := impl.CombosWithout(int64(class), kept); return got }
			if !givesSeparateLists(call) || !sameAsGuarded(kept, dead) {
				t.Error("CombosWithout of", text, dead, "shares memory")
			}
		}
	}
	// Of these the first ones are canonical, and could be returned as they are.
	for _, list := range [][]int64{nil, {0}, {44, 48}, {0, 5, 10, 15}, wholeDeck(), {51}, {51, 47}, {15, 10, 5, 0}} {
		kept := guarded(list)
		call := func() []int64 { got, _ := impl.CanonicalCards(kept); return got }
		if !givesNewLists(call) || !sameAsGuarded(kept, list) {
			t.Error("CanonicalCards of", textOf(list), "shares memory")
		}
	}
}
