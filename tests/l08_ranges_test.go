package tests

import (
	"maps"
	"math"
	"math/big"
	"math/rand"
	"slices"
	"strings"
	"testing"

	"loop.example/g00910/impl"
)

// rangeOfTexts returns the range of the classes with some texts, separated by blanks in any order.
func rangeOfTexts(texts string) []int64 {
	numbers := classNumbers()
	var r []int64
	for _, text := range strings.Fields(texts) {
		class, isText := numbers[text]
		if !isText {
			panic(text + " is no class")
		}
		r = append(r, class)
	}
	slices.Sort(r)
	return slices.Compact(r)
}

// fullRange is the range of all classes.
func fullRange() []int64 { return rangeOfTexts(allClasses) }

// groupRows are all rows of what is written like a class in a range text, from the smallest element of
// each row to the greatest one: the pairs, and those with a greater rank and a third character or none.
func groupRows() [][]string {
	const ranks = "23456789TJQKA"
	var pairs []string
	for _, rank := range strings.Split(ranks, "") {
		pairs = append(pairs, rank+rank)
	}
	rows := [][]string{pairs}
	for i := 1; i < len(ranks); i++ {
		for _, third := range []string{"s", "o", ""} {
			var row []string
			for _, smaller := range strings.Split(ranks[:i], "") {
				row = append(row, ranks[i:i+1]+smaller+third)
			}
			rows = append(rows, row)
		}
	}
	return rows
}

// rangeOfGroups returns the range of some elements of rows.
func rangeOfGroups(groups []string) []int64 {
	numbers := classNumbers()
	var r []int64
	for _, group := range groups {
		if class, isText := numbers[group]; isText {
			r = append(r, class)
			continue
		}
		r = append(r, numbers[group+"s"], numbers[group+"o"])
	}
	slices.Sort(r)
	return r
}

// partList has the ranges of all parts of range texts. It lists them, instead of reading a text.
func partList() map[string][]int64 {
	parts := map[string][]int64{}
	for _, row := range groupRows() {
		for i, group := range row {
			parts[group] = rangeOfGroups(row[i : i+1])
			parts[group+"+"] = rangeOfGroups(row[i:])
			// The element itself is left out: with - only smaller ones follow.
			for j, last := range row[:i] {
				parts[group+"-"+last] = rangeOfGroups(row[j : i+1])
			}
		}
	}
	return parts
}

// partTexts returns the texts of all parts, in an order that is the same each time.
func partTexts(parts map[string][]int64) []string {
	return slices.Sorted(maps.Keys(parts))
}

// readAs finds what ReadRange returns by looking for the parts of a text in the list of all parts.
func readAs(parts map[string][]int64, s string) ([]int64, int64) {
	if len(s) > 800 {
		return nil, impl.ErrLimit
	}
	var r []int64
	for _, part := range strings.Split(s, ",") {
		classes, isPart := parts[part]
		if !isPart {
			return nil, impl.ErrSyntax
		}
		r = append(r, classes...)
	}
	slices.Sort(r)
	return slices.Compact(r), impl.ErrNone
}

// expectRange compares ReadRange of a text with the list of all parts.
func expectRange(t *testing.T, parts map[string][]int64, s string) {
	t.Helper()
	want, wantCode := readAs(parts, s)
	if got, code := impl.ReadRange(s); !slices.Equal(got, want) || code != wantCode {
		t.Errorf("ReadRange of %q is %d %d and not %d %d", s, got, code, want, wantCode)
	}
}

// rejectRange reports a text that is read, or one with a wrong error.
func rejectRange(t *testing.T, s string, wantCode int64) {
	t.Helper()
	if got, code := impl.ReadRange(s); len(got) != 0 || code != wantCode {
		t.Errorf("ReadRange of %q is %d %d", s, got, code)
	}
}

// sampleRanges are the empty range, that of all classes, all of one class or of all but one, those of
// parts, and random ones of all lengths.
func sampleRanges() [][]int64 {
	full := fullRange()
	ranges := [][]int64{nil, {}, full}
	for i := range full {
		ranges = append(ranges, []int64{full[i]}, slices.Delete(slices.Clone(full), i, i+1))
	}
	parts := partList()
	for i, text := range partTexts(parts) {
		if i%9 == 0 {
			ranges = append(ranges, parts[text])
		}
	}
	source := rand.New(rand.NewSource(8))
	for length := range len(full) {
		r := slices.Clone(full)
		source.Shuffle(len(r), func(i, j int) { r[i], r[j] = r[j], r[i] })
		r = r[:length]
		slices.Sort(r)
		ranges = append(ranges, r)
	}
	return ranges
}

// fewRanges are those of sampleRanges that are used where all together would take too long.
func fewRanges() [][]int64 {
	ranges := [][]int64{nil, {0}, {168}, {0, 168}, fullRange()}
	for i, r := range sampleRanges() {
		if i%17 == 0 {
			ranges = append(ranges, r)
		}
	}
	return ranges
}

// noRanges have a class twice, two classes in the wrong order or a number that is no class, at the
// beginning, inside or at the end.
func noRanges() [][]int64 {
	full := fullRange()
	lists := [][]int64{{0, 0}, {168, 168}, {1, 0}, {168, 167}, {168, 0}, {5, 7, 7}, {7, 7, 9}, {5, 9, 7}, {9, 5, 7}, {5, 7, 5},
		{-1, 0}, {-1, 168}, {0, 169}, {168, 169}, {-1, 169}, {0, 1, 2, 2}, {0, 2, 1, 3}, {3, 2, 1, 0},
		append(slices.Clone(full), 168), append(slices.Clone(full), 169), append([]int64{-1}, full...),
		append([]int64{0}, full...), append(slices.Clone(full), full...), make([]int64, 1000)}
	for _, wrong := range noClasses {
		lists = append(lists, []int64{wrong}, []int64{0, wrong}, []int64{wrong, 168}, []int64{5, wrong, 6},
			append(slices.Clone(full), wrong), append([]int64{wrong}, full...))
	}
	for i := range len(full) - 1 {
		exchanged, twice, single := slices.Clone(full), slices.Clone(full), slices.Clone(full)
		exchanged[i], exchanged[i+1] = full[i+1], full[i]
		twice[i] = full[i+1]
		single[i] = 169
		lists = append(lists, exchanged, twice, single)
	}
	return lists
}

// noDead are lists that are no cards.
func noDead() [][]int64 {
	return append(invalidLists(), []int64{-1}, []int64{52}, []int64{0, 52}, []int64{51, -1}, []int64{0, 0}, []int64{51, 0, 51})
}

// rangeTextAs writes the standard text by the written texts.
func rangeTextAs(r []int64) string {
	texts := classTexts()
	var own []string
	for i := len(r) - 1; i >= 0; i-- {
		own = append(own, texts[r[i]])
	}
	return strings.Join(own, ",")
}

// combosOfAll returns the combinations of all classes at their numbers.
func combosOfAll() [][][]int64 {
	var all [][][]int64
	for _, text := range classTexts() {
		all = append(all, combosAs(text, nil))
	}
	return all
}

// rangeCombosAs finds the combinations of a range by those of all classes.
func rangeCombosAs(all [][][]int64, r, dead []int64) [][]int64 {
	var combos [][]int64
	for _, class := range r {
		for _, combo := range all[class] {
			if !slices.Contains(dead, combo[0]) && !slices.Contains(dead, combo[1]) {
				combos = append(combos, combo)
			}
		}
	}
	return combos
}

// sizeAs returns the number of combinations of a range without dead cards.
func sizeAs(r []int64) int64 {
	size := int64(0)
	for _, class := range r {
		size += map[string]int64{"": 6, "s": 4, "o": 12}[classTexts()[class][2:]]
	}
	return size
}

func TestRangeConstant(t *testing.T) {
	if impl.MaxRangeText != 800 {
		t.Error("the constant is", int64(impl.MaxRangeText))
	}
}

func TestIsRange(t *testing.T) {
	for _, r := range sampleRanges() {
		if !impl.IsRange(r) {
			t.Error("IsRange of", r, "is false")
		}
	}
	for _, list := range noRanges() {
		if impl.IsRange(list) {
			t.Error("IsRange of", list, "is true")
		}
	}
}

// knownRanges are range texts and the classes for which they stand.
var knownRanges = []struct{ text, classes string }{
	// Classes, and both classes of two ranks.
	{"22", "22"},
	{"AA", "AA"},
	{"AKs", "AKs"},
	{"AKo", "AKo"},
	{"32s", "32s"},
	{"32o", "32o"},
	{"AK", "AKs AKo"},
	{"32", "32s 32o"},
	{"T9", "T9s T9o"},
	// Pairs with +.
	{"QQ+", "QQ KK AA"},
	{"KK+", "KK AA"},
	{"AA+", "AA"},
	{"22+", "22 33 44 55 66 77 88 99 TT JJ QQ KK AA"},
	// Other classes with +.
	{"AKs+", "AKs"},
	{"AKo+", "AKo"},
	{"AK+", "AKs AKo"},
	{"54s+", "54s"},
	{"32+", "32s 32o"},
	{"ATs+", "ATs AJs AQs AKs"},
	{"KTo+", "KTo KJo KQo"},
	{"QT+", "QTs QTo QJs QJo"},
	{"A2s+", "A2s A3s A4s A5s A6s A7s A8s A9s ATs AJs AQs AKs"},
	{"52o+", "52o 53o 54o"},
	{"42+", "42s 42o 43s 43o"},
	// Pairs with -.
	{"AA-QQ", "AA KK QQ"},
	{"33-22", "33 22"},
	{"JJ-99", "JJ TT 99"},
	{"AA-22", "22 33 44 55 66 77 88 99 TT JJ QQ KK AA"},
	{"AA-KK", "AA KK"},
	{"TT-99", "TT 99"},
	// Other classes with -.
	{"AKs-AJs", "AKs AQs AJs"},
	{"KTo-K8o", "KTo K9o K8o"},
	{"43s-42s", "43s 42s"},
	{"AK-AT", "AKs AKo AQs AQo AJs AJo ATs ATo"},
	{"J5-J3", "J5s J5o J4s J4o J3s J3o"},
	{"A5s-A2s", "A5s A4s A3s A2s"},
	{"AKs-AQs", "AKs AQs"},
	{"73o-72o", "73o 72o"},
	{"AK-AQ", "AKs AKo AQs AQo"},
	{"43-42", "43s 43o 42s 42o"},
	// Several parts that overlap or come in any order.
	{"QQ+,KK-JJ", "JJ QQ KK AA"},
	{"22,AA", "22 AA"},
	{"AA,22", "22 AA"},
	{"AKs,AKo,AK", "AKs AKo"},
	{"AKo,AKs", "AKs AKo"},
	{"AK,AKs", "AKs AKo"},
	{"AA,AA,AA", "AA"},
	{"54s+,32", "54s 32s 32o"},
	{"A2o,22+,AKs-AQs,A3-A2,KQ,KQs+,T9o-T8o",
		"22 33 44 55 66 77 88 99 TT JJ QQ KK AA AKs AQs A3s A3o A2s A2o KQs KQo T9o T8o"},
	{"AJs+,AQo+,TT+", "AJs AQs AKs AQo AKo TT JJ QQ KK AA"},
	{"22+,32+,42+,52+,62+,72+,82+,92+,T2+,J2+,Q2+,K2+,A2+", allClasses},
	{"AK-A2,KQ-K2,QJ-Q2,JT-J2,T9-T2,98-92,87-82,76-72,65-62,54-52,43-42,32,AA-22", allClasses},
}

func TestKnownRanges(t *testing.T) {
	for _, c := range knownRanges {
		want := rangeOfTexts(c.classes)
		got, code := impl.ReadRange(c.text)
		if !slices.Equal(got, want) || code != impl.ErrNone {
			t.Error("ReadRange of", c.text, "is", got, code, "and not", want)
		}
	}
}

// All parts are read, alone and with others around them.
func TestAllParts(t *testing.T) {
	parts := partList()
	// 13 pairs and 3 * 78 others alone and with +, and with - two different elements of each row.
	if want := 2*(13+3*78) + 13*12/2 + 3*286; len(parts) != want {
		t.Fatal("there are", len(parts), "parts and not", want)
	}
	for _, text := range partTexts(parts) {
		if got, code := impl.ReadRange(text); !slices.Equal(got, parts[text]) || code != impl.ErrNone {
			t.Error("ReadRange of", text, "is", got, code, "and not", parts[text])
		}
		expectRange(t, parts, text+","+text)
		expectRange(t, parts, "22,"+text)
		expectRange(t, parts, text+",AKs+")
		expectRange(t, parts, "77-55,"+text+",K9o-K4o")
	}
}

// Any two groups are joined in all ways, most of which are no parts.
func TestAllPairsOfGroups(t *testing.T) {
	parts := partList()
	groups := slices.Concat(groupRows()...)
	for _, first := range groups {
		for _, second := range groups {
			expectRange(t, parts, first+"-"+second)
			expectRange(t, parts, first+second)
		}
		for _, second := range []string{"AA", "22", "AK", "AKs", "32o", first} {
			for _, s := range []string{first + "+" + second, first + "+-" + second, first + "-" + second + "+", first + "-+" + second,
				first + "+-" + second + "+", first + "--" + second, first + "-" + second + "-", "-" + first + "-" + second,
				first + "-" + second + "-" + second, first + " " + second, first + ";" + second, first + "," + second} {
				expectRange(t, parts, s)
			}
		}
	}
}

// A group is a part, but not with - and itself behind it, whatever parts are around it.
func TestSameGroupOnBothSides(t *testing.T) {
	for _, group := range slices.Concat(groupRows()...) {
		if _, code := impl.ReadRange(group); code != impl.ErrNone {
			t.Error("ReadRange of", group, "returns", code)
		}
		twice := group + "-" + group
		for _, s := range []string{twice, twice + ",AA", "22+," + twice, "AA-KK," + twice + ",AKs-AQs", twice + "," + group} {
			rejectRange(t, s, impl.ErrSyntax)
		}
	}
}

// Texts of many parts are read in any order of the parts, up to those with 800 bytes and beyond.
func TestReadRangeOfManyParts(t *testing.T) {
	parts := partList()
	texts := partTexts(parts)
	source := rand.New(rand.NewSource(88))
	for round := range 3000 {
		var own []string
		for range 1 + round%150 {
			own = append(own, texts[source.Intn(len(texts))])
		}
		expectRange(t, parts, strings.Join(own, ","))
		slices.Reverse(own)
		expectRange(t, parts, strings.Join(own, ","))
		own[source.Intn(len(own))] = []string{"", "AAs", "KA", "TT-JJ", "AKs-AQo", "QQ+-JJ", " 22", "A"}[round%8]
		expectRange(t, parts, strings.Join(own, ","))
	}
}

func TestReadRangeRejects(t *testing.T) {
	for _, s := range []string{
		// Parts that are empty.
		"", ",", ",,", "AA,", ",AA", "AA,,KK", "AA,KK,", ",AA,KK", ",AKs", "AKs+,", "AK-AQ,",
		// Blanks and other bytes that are none of a part.
		" ", "AA ", " AA", "A A", "AA, KK", "AA ,KK", "AKs ", "AK s", "AK +", "AK- AQ", "AK -AQ", "AA\n", "\nAA", "AA\x00", "\x00",
		"AA\t", "AA;KK", "AA/KK", "AA KK", "AA.", "(AA)", "AA|KK", "AA:KK", "AA+KK", "♠", "AK♠", "ＡＫ", "AA\xff", "\xffAA", "AK–AQ",
		// The smaller rank first, and small letters.
		"KA", "KAs", "23", "23o", "9Ts", "KA+", "23+", "KAs+", "KA-QA", "KAs-QAs", "AK-QA", "aa", "aks", "Aks", "AkS", "AKS", "AKO", "tt+",
		// A third character behind a pair, and wrong ones.
		"AAs", "AAo", "22s", "22o", "TTs+", "TTo+", "QQs-JJs", "QQo-JJo", "QQs-JJ", "QQ-JJs", "AKx", "AK1", "AKss", "AKso", "AKos", "AKc", "AKA",
		// Single ranks, and parts of groups.
		"A", "2", "s", "o", "As", "AsKs", "AhKd", "A+", "A-K", "AK-A", "AK-", "AK-s", "AA-K", "AA-", "AKs-AQ-", "-AA", "-", "+", "+AA", "s+", "10", "TT-9",
		// Two groups with - that differ in the third character or in the greater rank.
		"AKs-AQo", "AKo-AQs", "AKs-AQ", "AK-AQs", "AKo-AQ", "AK-AQo", "AKs-AKo", "AK-AKs", "AKs-AK", "AKs-KQs", "AKo-KJo", "AK-KQ", "KQs-AJs",
		"QJs-JTs", "T9-98", "KQ-AQ",
		// Two groups with - in the wrong order.
		"QQ-KK", "22-AA", "KK-AA", "AQs-AKs", "A2o-A3o", "AT-AJ", "42-43",
		// The same group twice with -, alone and among others.
		"AA-AA", "TT-TT", "22-22", "AKs-AKs", "AKo-AKo", "AK-AK", "72o-72o", "98-98", "32s-32s", "32o-32o", "32-32",
		"22-22,AA", "AA,KQs-KQs", "QQ+,AK-AK,22", "AA-KK,KK-KK",
		// A pair and another class.
		"AA-KQs", "AA-AK", "AA-AKs", "AA-AKo", "AK-AA", "AKs-AA", "AK-KK", "AK-22", "A2-22", "KK-KQ", "33-32", "32-22", "22-32", "AKs-KK",
		// + and - at once, or one of them twice.
		"QQ+-JJ", "QQ-JJ+", "QQ+-JJ+", "AKs+-AJs", "AKs-AJs+", "AK+-AQ", "AK-AQ+", "QQ++", "AKs++", "QQ--JJ", "QQ-JJ-TT", "AKs-AJs-ATs",
		"QQ-+", "QQ+-", "+QQ", "-QQ+",
		// A part that is none among others.
		"AA,KA", "KA,AA", "AA,QQ-KK,KK", "22+,AAs", "QQ+,AKs-AQo,TT", "AA,KK,QQ,J", "0", "-1", "168", "140,154,168", "random", "any", "*",
	} {
		rejectRange(t, s, impl.ErrSyntax)
	}
}

// longText returns a range text of some bytes, at least 2: parts of 3, 2 and 4 bytes.
func longText(length int) string {
	var s string
	switch length % 3 {
	case 0:
		s = "AKs"
	case 1:
		s = "AKs+"
	case 2:
		s = "AA"
	}
	return s + strings.Repeat(",72", (length-len(s))/3)
}

func TestReadRangeOfLongTexts(t *testing.T) {
	parts := partList()
	for length := 2; length < 1000; length++ {
		s := longText(length)
		if len(s) != length {
			t.Fatal("the text has", len(s), "bytes and not", length)
		}
		if _, code := readAs(parts, s); (code == impl.ErrNone) != (length <= 800) {
			t.Fatal("the text of", length, "bytes is none")
		}
		expectRange(t, parts, s)
	}
	for _, s := range []string{strings.Repeat("AA,", 266) + "KK", strings.Repeat("AK-AQ,", 133) + "KK", "KK+" + strings.Repeat(",77", 265) + ",A"} {
		expectRange(t, parts, s)
		if len(s) > 800 {
			t.Error("the text has", len(s), "bytes")
		}
	}
}

// The error of a text that is too long comes first, and one with 800 bytes is looked at.
func TestReadRangeOfLongTextsThatAreNone(t *testing.T) {
	for _, s := range []string{strings.Repeat("A", 800), strings.Repeat(" ", 800), strings.Repeat(",", 800), strings.Repeat("\xff", 800),
		strings.Repeat("♠", 266), strings.Repeat("AA,", 266) + ",A", strings.Repeat("AA,", 266) + "K,", longText(799) + "K",
		longText(799) + ",", longText(799) + " ", " " + longText(799)} {
		if len(s) > 800 {
			t.Fatal("the text has", len(s), "bytes")
		}
		rejectRange(t, s, impl.ErrSyntax)
		for _, more := range []int{801 - len(s), 802 - len(s), 10000} {
			rejectRange(t, s+strings.Repeat("A", more), impl.ErrLimit)
		}
	}
	// 800 characters, but more bytes.
	rejectRange(t, strings.Repeat("♠", 267), impl.ErrLimit)
	rejectRange(t, strings.Repeat("é", 401), impl.ErrLimit)
	rejectRange(t, strings.Repeat("é", 400), impl.ErrSyntax)
	rejectRange(t, strings.Repeat("AA,", 1000000)+"AA", impl.ErrLimit)
	rejectRange(t, strings.Repeat("\x00", 801), impl.ErrLimit)
}

// visitStrings calls visit with all strings of up to length characters behind a front.
func visitStrings(front, characters string, length int, visit func(string)) {
	visit(front)
	if length == 0 {
		return
	}
	for i := range len(characters) {
		visitStrings(front+characters[i:i+1], characters, length-1, visit)
	}
}

func TestReadRangeOfShortStrings(t *testing.T) {
	parts := partList()
	check := func(s string) { expectRange(t, parts, s) }
	for first := range 256 {
		check(string([]byte{byte(first)}))
		for second := range 256 {
			check(string([]byte{byte(first), byte(second)}))
		}
	}
	visitStrings("", "23456789TJQKAso+-, ak", 3, check)
	visitStrings("", "2KAso+-,", 5, check)
	visitStrings("AK", "QAso+-,", 5, check)
	visitStrings("TT", "9Ts+-,", 5, check)
}

// The texts of parts are tried with one byte left out, added or changed.
func TestReadRangeOfChangedTexts(t *testing.T) {
	const characters = "23456789TJQKAso+-, akcS\x00"
	parts := partList()
	var allBytes []byte
	for b := range 256 {
		allBytes = append(allBytes, byte(b))
	}
	for i, text := range partTexts(parts) {
		tried := characters
		if i%50 == 0 {
			tried = string(allBytes)
		}
		for place := range len(text) + 1 {
			front, back := text[:place], text[place:]
			for b := range len(tried) {
				expectRange(t, parts, front+tried[b:b+1]+back)
				if back != "" {
					expectRange(t, parts, front+tried[b:b+1]+back[1:])
				}
			}
			if back != "" {
				expectRange(t, parts, front+back[1:])
			}
		}
	}
}

func TestKnownRangeTexts(t *testing.T) {
	for _, c := range []struct{ text, standard string }{
		{"QQ+", "AA,KK,QQ"},
		{"AK", "AKs,AKo"},
		{"54s+,32", "54s,32s,32o"},
		{"AKs-AJs", "AKs,AQs,AJs"},
		{"22,AA", "AA,22"},
		{"33-22,22,22+", "AA,KK,QQ,JJ,TT,99,88,77,66,55,44,33,22"},
		{"K2s,A2o,KK,AKo,A2s", "A2s,AKo,KK,K2s,A2o"},
	} {
		r, code := impl.ReadRange(c.text)
		if code != impl.ErrNone {
			t.Error("ReadRange of", c.text, "returns", code)
		}
		if got, code := impl.RangeText(r); got != c.standard || code != impl.ErrNone {
			t.Error("RangeText of", c.text, "is", got, code)
		}
	}
}

func TestRangesAreRecovered(t *testing.T) {
	ranges := sampleRanges()
	for a := range int64(169) {
		for b := a + 1; b < 169; b++ {
			ranges = append(ranges, []int64{a, b})
		}
	}
	for _, r := range ranges {
		text, code := impl.RangeText(r)
		if text != rangeTextAs(r) || code != impl.ErrNone {
			t.Fatal("RangeText of", r, "is", text, code)
		}
		if len(r) == 0 {
			continue
		}
		if got, code := impl.ReadRange(text); !slices.Equal(got, r) || code != impl.ErrNone {
			t.Fatal("ReadRange of", text, "is", got, code, "and not", r)
		}
	}
}

// No standard text is too long: the longest one, that of all classes, has 13 * 2 + 156 * 3 bytes and
// 168 commas. The empty range is the only one that is not recovered.
func TestLongestAndEmptyRangeText(t *testing.T) {
	text, code := impl.RangeText(fullRange())
	if len(text) != 662 || text != rangeTextAs(fullRange()) || code != impl.ErrNone {
		t.Error("RangeText of all classes is", text, code)
	}
	if got, code := impl.ReadRange(text); !slices.Equal(got, fullRange()) || code != impl.ErrNone {
		t.Error("ReadRange of all classes is", got, code)
	}
	for _, empty := range [][]int64{nil, {}} {
		if text, code := impl.RangeText(empty); text != "" || code != impl.ErrNone {
			t.Error("RangeText of the empty range is", text, code)
		}
	}
	rejectRange(t, "", impl.ErrSyntax)
}

func TestRangeTextOfNoRanges(t *testing.T) {
	for _, list := range noRanges() {
		if text, code := impl.RangeText(list); text != "" || code != impl.ErrInvalid {
			t.Error("RangeText of", list, "is", text, code)
		}
	}
}

func TestKnownRangeCombos(t *testing.T) {
	for _, c := range []struct{ text, dead, combos string }{
		{"QQ+", "", "QcQd QcQh QcQs QdQh QdQs QhQs KcKd KcKh KcKs KdKh KdKs KhKs AcAd AcAh AcAs AdAh AdAs AhAs"},
		{"QQ+", "As", "QcQd QcQh QcQs QdQh QdQs QhQs KcKd KcKh KcKs KdKh KdKs KhKs AcAd AcAh AdAh"},
		{"QQ+", "AsAdKcKdKhKs", "QcQd QcQh QcQs QdQh QdQs QhQs AcAh"},
		{"QQ+", "2c3d4h5s", "QcQd QcQh QcQs QdQh QdQs QhQs KcKd KcKh KcKs KdKh KdKs KhKs AcAd AcAh AcAs AdAh AdAs AhAs"},
		{"QQ+", "QcQdQhQsKcKdKhKsAcAdAhAs", ""},
		{"QQ+", "QsQhQdKsKhKdAsAhAd", ""},
		{"AKs-AJs", "", "JcAc JdAd JhAh JsAs QcAc QdAd QhAh QsAs KcAc KdAd KhAh KsAs"},
		{"AK", "AcAdAh", "KcAs KdAs KhAs KsAs"},
		{"AKo,22", "KcKdAhAs2c2s", "2d2h KhAc KhAd KsAc KsAd"},
		{"32", "2c2d2h2s", ""},
		{"32s", "", "2c3c 2d3d 2h3h 2s3s"},
		{"22+", allTexts, ""},
		{"22+", allTexts[:100], "AhAs"},
	} {
		r, _ := impl.ReadRange(c.text)
		dead := cardsWithText(c.dead)
		combos, code := impl.RangeCombos(r, dead)
		var texts []string
		for _, combo := range combos {
			texts = append(texts, textOf(combo))
		}
		if strings.Join(texts, " ") != c.combos || code != impl.ErrNone {
			t.Error("RangeCombos of", c.text, c.dead, "is", texts, code)
		}
		if count, code := impl.CountCombos(r, dead); count != int64(len(strings.Fields(c.combos))) || code != impl.ErrNone {
			t.Error("CountCombos of", c.text, c.dead, "is", count, code)
		}
	}
}

func TestRangeCombos(t *testing.T) {
	all := combosOfAll()
	deads := deadLists()
	for i, r := range sampleRanges() {
		// Each range meets some of the lists, and over all of them each list is used.
		for k := i % 7; k < len(deads); k += 7 {
			want := rangeCombosAs(all, r, deads[k])
			if got, code := impl.RangeCombos(r, deads[k]); !sameLists(got, want) || code != impl.ErrNone {
				t.Fatal("RangeCombos of", r, textOf(deads[k]), "is", got, code)
			}
			if got, code := impl.CountCombos(r, deads[k]); got != int64(len(want)) || code != impl.ErrNone {
				t.Fatal("CountCombos of", r, textOf(deads[k]), "is", got, code)
			}
		}
	}
}

// Pairs have 6 combinations, suited classes 4 and offsuit ones 12, and a range has those of its classes.
func TestSizesOfRanges(t *testing.T) {
	for _, r := range sampleRanges() {
		want := sizeAs(r)
		if got, code := impl.CountCombos(r, nil); got != want || code != impl.ErrNone {
			t.Error("CountCombos of", r, "is", got, code, "and not", want)
		}
		combos, code := impl.RangeCombos(r, nil)
		if int64(len(combos)) != want || code != impl.ErrNone {
			t.Error("RangeCombos of", r, "has", len(combos), code, "and not", want)
		}
	}
	for text, want := range map[string]int64{"22+": 78, "AA": 6, "72s": 4, "72o": 12, "72": 16, "AK-A2": 192, "A2s+": 48, "A2o+": 144} {
		r, _ := impl.ReadRange(text)
		if got, code := impl.CountCombos(r, nil); got != want || code != impl.ErrNone {
			t.Error("CountCombos of", text, "is", got, code)
		}
	}
}

// A range and the others have 1326 combinations together, or all pairs of cards that are not dead.
func TestRangeAndOthersAreAll(t *testing.T) {
	for i, r := range sampleRanges() {
		others, code := impl.OtherRange(r)
		if code != impl.ErrNone {
			t.Fatal("OtherRange of", r, "returns", code)
		}
		deads := [][]int64{nil, {50}, {0, 17}, {4, 21, 22, 39, 51}, wholeDeck()[:i%53]}
		for _, dead := range deads {
			count, code := impl.CountCombos(r, dead)
			rest, restCode := impl.CountCombos(others, dead)
			live := int64(52 - len(dead))
			if count+rest != live*(live-1)/2 || code != impl.ErrNone || restCode != impl.ErrNone {
				t.Fatal("CountCombos of", r, "and the others is", count, rest, "without", textOf(dead))
			}
		}
		combos, _ := impl.RangeCombos(r, nil)
		rest, _ := impl.RangeCombos(others, nil)
		together := append(copyOf(combos), copyOf(rest)...)
		slices.SortFunc(together, slices.Compare)
		if !sameLists(together, setsOf(2, 0)) {
			t.Fatal("RangeCombos of", r, "and of the others are not all combinations")
		}
	}
}

func TestOtherRange(t *testing.T) {
	for _, r := range sampleRanges() {
		var want []int64
		for class := range int64(169) {
			if !slices.Contains(r, class) {
				want = append(want, class)
			}
		}
		expectList(t, "OtherRange", r, impl.OtherRange, want, impl.ErrNone)
		expectList(t, "OtherRange", want, impl.OtherRange, r, impl.ErrNone)
	}
}

func TestJoinedAndCommonRanges(t *testing.T) {
	ranges := sampleRanges()
	for i, a := range ranges {
		for k := i % 11; k < len(ranges); k += 11 {
			b := ranges[k]
			join := slices.Compact(slices.Sorted(slices.Values(slices.Concat(a, b))))
			common := slices.DeleteFunc(slices.Clone(a), func(class int64) bool { return !slices.Contains(b, class) })
			if got, code := impl.JoinRanges(a, b); !slices.Equal(got, join) || code != impl.ErrNone {
				t.Fatal("JoinRanges of", a, b, "is", got, code)
			}
			if got, code := impl.CommonRange(a, b); !slices.Equal(got, common) || code != impl.ErrNone {
				t.Fatal("CommonRange of", a, b, "is", got, code)
			}
		}
	}
}

func TestKnownJoinedAndCommonRanges(t *testing.T) {
	for _, c := range []struct{ a, b, join, common string }{
		{"", "", "", ""},
		{"AA", "", "AA", ""},
		{"", "AA", "AA", ""},
		{"AA", "AA", "AA", "AA"},
		{"AA KK", "KK QQ", "QQ KK AA", "KK"},
		{"AA QQ", "KK JJ", "JJ QQ KK AA", ""},
		{"AKs AKo", "AKs", "AKs AKo", "AKs"},
		{"22", allClasses, allClasses, "22"},
		{allClasses, "22 AA AKs", allClasses, "22 AA AKs"},
		{allClasses, "", allClasses, ""},
		{allClasses, allClasses, allClasses, allClasses},
	} {
		a, b := rangeOfTexts(c.a), rangeOfTexts(c.b)
		if got, code := impl.JoinRanges(a, b); !slices.Equal(got, rangeOfTexts(c.join)) || code != impl.ErrNone {
			t.Error("JoinRanges of", c.a, "and", c.b, "is", got, code)
		}
		if got, code := impl.CommonRange(a, b); !slices.Equal(got, rangeOfTexts(c.common)) || code != impl.ErrNone {
			t.Error("CommonRange of", c.a, "and", c.b, "is", got, code)
		}
	}
}

func TestShareOf(t *testing.T) {
	for _, c := range []struct {
		classes string
		share   impl.Ratio
	}{
		{"", ratio(0, 1)},
		{"AA", ratio(1, 221)},
		{"AKs", ratio(2, 663)},
		{"AKo", ratio(2, 221)},
		{"QQ KK AA", ratio(3, 221)},
		{"AKs AKo", ratio(8, 663)},
		{"AKs AA", ratio(5, 663)},
		{allClasses, ratio(1, 1)},
	} {
		if got, code := impl.ShareOf(rangeOfTexts(c.classes)); got != c.share || code != impl.ErrNone {
			t.Error("ShareOf of", c.classes, "is", got, code)
		}
	}
	for _, r := range sampleRanges() {
		want := expect(big.NewRat(sizeAs(r), 1326))
		if got := result(impl.ShareOf(r)); got != want {
			t.Error("ShareOf of", r, "is", got, "and not", want)
		}
		others, _ := impl.OtherRange(r)
		share, _ := impl.ShareOf(r)
		rest, _ := impl.ShareOf(others)
		if sum := result(impl.AddRatios(share, rest)); sum != success(1, 1) {
			t.Error("ShareOf of", r, "and of the others is", share, rest)
		}
	}
}

// expectRangeError reports a function with a range and dead cards that does not return a code alone.
func expectRangeError(t *testing.T, r, dead []int64, want int64) {
	t.Helper()
	if got, code := impl.CountCombos(r, dead); got != 0 || code != want {
		t.Error("CountCombos of", r, dead, "is", got, code)
	}
	if got, code := impl.RangeCombos(r, dead); len(got) != 0 || code != want {
		t.Error("RangeCombos of", r, dead, "is", got, code)
	}
}

func TestFunctionsOfNoRanges(t *testing.T) {
	for _, list := range noRanges() {
		expectList(t, "OtherRange", list, impl.OtherRange, nil, impl.ErrInvalid)
		if got, code := impl.ShareOf(list); got != (impl.Ratio{}) || code != impl.ErrInvalid {
			t.Error("ShareOf of", list, "is", got, code)
		}
		for _, other := range [][]int64{nil, {0}, {168}, {5, 7, 100}, fullRange(), list, {0, 0}, {-1}, {169}} {
			for _, pair := range [][2][]int64{{list, other}, {other, list}} {
				if got, code := impl.JoinRanges(pair[0], pair[1]); len(got) != 0 || code != impl.ErrInvalid {
					t.Error("JoinRanges of", pair, "is", got, code)
				}
				if got, code := impl.CommonRange(pair[0], pair[1]); len(got) != 0 || code != impl.ErrInvalid {
					t.Error("CommonRange of", pair, "is", got, code)
				}
			}
		}
		for _, dead := range [][]int64{nil, {0}, {51, 0}, wholeDeck()} {
			expectRangeError(t, list, dead, impl.ErrInvalid)
		}
	}
}

func TestRangesWithDeadThatAreNoCards(t *testing.T) {
	for _, dead := range noDead() {
		for _, r := range [][]int64{nil, {}, {0}, {168}, {0, 14, 168}, fullRange()} {
			expectRangeError(t, r, dead, impl.ErrRange)
		}
	}
}

// The error of a range that is none comes first, whatever the dead cards are.
func TestFirstErrorOfRanges(t *testing.T) {
	for _, list := range [][]int64{{0, 0}, {1, 0}, {-1}, {169}, {0, 169}, {-1, 0}, {math.MinInt64}, {math.MaxInt64}} {
		for _, dead := range noDead() {
			expectRangeError(t, list, dead, impl.ErrInvalid)
		}
	}
}

func TestRangeArgumentsStay(t *testing.T) {
	lists := append(sampleRanges(), noRanges()...)
	other, dead := guarded([]int64{0, 7, 154, 168}), guarded([]int64{51, 3, 20})
	for _, list := range lists {
		kept := guarded(list)
		impl.IsRange(kept)
		impl.RangeText(kept)
		impl.CountCombos(kept, dead)
		impl.RangeCombos(kept, dead)
		impl.JoinRanges(kept, other)
		impl.JoinRanges(other, kept)
		impl.CommonRange(kept, other)
		impl.CommonRange(other, kept)
		impl.OtherRange(kept)
		impl.ShareOf(kept)
		if !sameAsGuarded(kept, list) {
			t.Error(list, "has become", kept[:len(list)+3])
		}
	}
	if !sameAsGuarded(other, []int64{0, 7, 154, 168}) || !sameAsGuarded(dead, []int64{51, 3, 20}) {
		t.Error("the other arguments have become", other[:7], dead[:6])
	}
	for _, dead := range append(deadLists(), noDead()...) {
		kept := guarded(dead)
		impl.CountCombos(other, kept)
		impl.RangeCombos(other, kept)
		if !sameAsGuarded(kept, dead) {
			t.Error(dead, "has become", kept[:len(dead)+3])
		}
	}
}

func TestRangeResultsAreNew(t *testing.T) {
	for _, c := range knownRanges {
		if !givesNewLists(func() []int64 { got, _ := impl.ReadRange(c.text); return got }) {
			t.Error("ReadRange of", c.text, "shares memory")
		}
	}
	for _, r := range fewRanges() {
		kept := guarded(r)
		// Where one argument has all classes of the result, it could be returned as it is.
		for _, b := range [][]int64{nil, {}, kept, guarded([]int64{3, 100}), guarded(fullRange())} {
			same := slices.Clone(b)
			for name, call := range map[string]func() []int64{
				"JoinRanges":              func() []int64 { got, _ := impl.JoinRanges(kept, b); return got },
				"JoinRanges, exchanged,":  func() []int64 { got, _ := impl.JoinRanges(b, kept); return got },
				"CommonRange":             func() []int64 { got, _ := impl.CommonRange(kept, b); return got },
				"CommonRange, exchanged,": func() []int64 { got, _ := impl.CommonRange(b, kept); return got },
				"OtherRange":              func() []int64 { got, _ := impl.OtherRange(kept); return got },
			} {
				if !givesNewLists(call) || !sameAsGuarded(kept, r) || !slices.Equal(b, same) {
					t.Fatal(name, "of", r, b, "shares memory")
				}
			}
		}
	}
}

func TestRangeCombosShareNothing(t *testing.T) {
	for _, text := range []string{"AA", "AKs", "AK", "22+", "A2+", "AKs-AJs,22", "32,32s,32o"} {
		for _, dead := range [][]int64{nil, {50}, {0, 17, 34, 51}} {
			r, _ := impl.ReadRange(text)
			keptRange, keptDead := guarded(r), guarded(dead)
			call := func() [][]int64 { got, _ := impl.RangeCombos(keptRange, keptDead); return got }
			if !givesSeparateLists(call) || !sameAsGuarded(keptRange, r) || !sameAsGuarded(keptDead, dead) {
				t.Error("RangeCombos of", text, dead, "shares memory")
			}
		}
	}
}
