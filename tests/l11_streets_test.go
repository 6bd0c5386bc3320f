package tests

import (
	"math/rand"
	"slices"
	"testing"

	"loop.example/g00910/impl"
)

// withLimit returns the table with another limit.
func withLimit(table impl.Table, limit int64) impl.Table {
	table.Limit = limit
	return table
}

// liveAs is the number of seats that have not folded.
func liveAs(b impl.Betting) int {
	live := len(b.Folded)
	for _, folded := range b.Folded {
		if folded {
			live--
		}
	}
	return live
}

// nextCodeAs is the error of NextRound, with the numbers of the document.
func nextCodeAs(table impl.Table, b impl.Betting, street int64) int64 {
	switch {
	case !isTableAs(table) || !isBettingAs(b):
		return 1
	case street != 1 && street != 2 && street != 3 || len(b.Stacks) != len(table.Stacks):
		return 2
	case isOpenAs(b) || liveAs(b) < 2:
		return 5
	}
	return 0
}

// nextRoundAs is the round of a street that follows one that is closed.
func nextRoundAs(table impl.Table, b impl.Betting, street int64) impl.Betting {
	next := laterRoundAs(b, rowOf(table).later)
	next.Unit = table.Big
	if street != 1 && table.Limit == 2 {
		next.Unit = min(table.Big+table.Big, 100000)
	}
	return next
}

// runAs applies actions by the definition.
func runAs(b impl.Betting, actions []impl.Action) (round impl.Betting, count, code int64) {
	for _, a := range actions {
		switch {
		case !isBettingAs(b):
			return b, count, 1
		case !isOpenAs(b):
			return b, count, 5
		case !isLegalAs(b, a):
			return b, count, 2
		}
		b = appliedAs(b, a)
		count++
	}
	return b, count, 0
}

// checkedDownAs lets seats check or call by the definition, and returns the actions, too.
func checkedDownAs(b impl.Betting) (closed impl.Betting, actions []impl.Action) {
	for isOpenAs(b) {
		a := act(2)
		if isLegalAs(b, act(1)) {
			a = act(1)
		}
		b, actions = appliedAs(b, a), append(actions, a)
	}
	return b, actions
}

// expectNext compares NextRound with what it has to be.
func expectNext(t *testing.T, table impl.Table, b impl.Betting, street int64) {
	t.Helper()
	want, wantCode := impl.Betting{}, nextCodeAs(table, b, street)
	if wantCode == impl.ErrNone {
		want = nextRoundAs(table, b, street)
	}
	got, code := impl.NextRound(table, b, street)
	if !sameRound(got, want) || code != wantCode {
		t.Fatalf("NextRound of %+v, %+v, %v is %+v, %v and not %+v, %v", table, b, street, got, code, want, wantCode)
	}
	if code != impl.ErrNone {
		return
	}
	chips, _ := impl.ChipsIn(b)
	if then, code := impl.ChipsIn(got); then != chips || code != impl.ErrNone {
		t.Fatalf("%v chips have become %v, %v in %+v", chips, then, code, got)
	}
}

// expectRun compares RunActions with what it has to be for a valid round and a list that is not too long.
func expectRun(t *testing.T, b impl.Betting, actions []impl.Action) {
	t.Helper()
	want, wantCount, wantCode := runAs(b, actions)
	if got, count, code := impl.RunActions(b, actions); !sameRound(got, want) || count != wantCount || code != wantCode {
		t.Fatalf("RunActions of %+v, %v is %+v, %v, %v and not %+v, %v, %v", b, actions, got, count, code, want, wantCount, wantCode)
	}
}

// expectClosed compares the functions with a valid round alone with what they have to be.
func expectClosed(t *testing.T, b impl.Betting) {
	t.Helper()
	want, actions := checkedDownAs(b)
	got, count, code := impl.CheckDown(b)
	if !sameRound(got, want) || count != int64(len(actions)) || code != impl.ErrNone {
		t.Fatalf("CheckDown of %+v is %+v, %v, %v and not %+v, %v", b, got, count, code, want, len(actions))
	}
	if !impl.IsBetting(got) || impl.IsOpen(got) || count > int64(len(actorsIn(b))) {
		t.Fatalf("CheckDown of %+v gives the round %+v with %v actions", b, got, count)
	}
	if sumOf(slices.Concat(got.Stacks, got.Bets, got.Paid)) != sumOf(slices.Concat(b.Stacks, b.Bets, b.Paid)) {
		t.Fatalf("CheckDown of %+v does not conserve the chips of %+v", b, got)
	}
	expectRun(t, b, actions)
	for _, round := range []impl.Betting{b, got} {
		isSettled := !isOpenAs(round) && (liveAs(round) < 2 || len(actorsIn(round)) < 2)
		if impl.IsSettled(round) != isSettled {
			t.Fatalf("IsSettled of %+v is %v", round, !isSettled)
		}
	}
}

// expectShares compares Contributions and WinnerByFolds with what they have to be for a valid round.
func expectShares(t *testing.T, b impl.Betting) {
	t.Helper()
	var sums []int64
	for seat, paid := range b.Paid {
		sums = append(sums, paid+b.Bets[seat])
	}
	if got, code := impl.Contributions(b); !slices.Equal(got, sums) || code != impl.ErrNone {
		t.Fatalf("Contributions of %+v is %v, %v", b, got, code)
	}
	winner, wantCode := int64(0), int64(impl.ErrState)
	if liveAs(b) == 1 {
		winner, wantCode = int64(slices.Index(b.Folded, false)), impl.ErrNone
	}
	if got, code := impl.WinnerByFolds(b); got != winner || code != wantCode {
		t.Fatalf("WinnerByFolds of %+v is %v, %v", b, got, code)
	}
}

func TestStreetConstants(t *testing.T) {
	if impl.MaxActions != 100 {
		t.Error("MaxActions is", int64(impl.MaxActions))
	}
}

// knownFirstRounds are tables and the rounds with which their hands begin.
var knownFirstRounds = []struct {
	name  string
	table impl.Table
	want  impl.Betting
}{
	{"two seats", tableOf(list(10, 10), 0, 1, 2, 0), roundOf(list(9, 8), list(1, 2), list(0, 0), "..", 0, 2)},
	{"two seats, the other button", tableOf(list(10, 20), 1, 1, 2, 3), roundOf(list(5, 16), list(2, 1), list(3, 3), "..", 1, 2)},
	{"three seats", tableOf(list(10, 20, 30), 1, 3, 5, 0), roundOf(list(5, 20, 27), list(5, 0, 3), list(0, 0, 0), "...", 1, 5)},
	{"four seats", tableOf(list(10, 20, 30, 40), 0, 0, 1, 2), roundOf(list(8, 18, 27, 38), list(0, 0, 1, 0), list(2, 2, 2, 2), "....", 3, 1)},
	{"five seats", tableOf(list(10, 20, 30, 40, 50), 4, 2, 2, 0), roundOf(list(8, 18, 30, 40, 50), list(2, 2, 0, 0, 0), list(0, 0, 0, 0, 0), ".....", 2, 2)},
	{"six seats", tableOf(list(100, 100, 100, 100, 100, 100), 3, 5, 10, 1), roundOf(list(99, 99, 99, 99, 94, 89), list(0, 0, 0, 0, 5, 10), list(1, 1, 1, 1, 1, 1), "......", 0, 10)},
	{"a blind that takes a stack", tableOf(list(100, 50, 2), 0, 1, 2, 1), roundOf(list(99, 48, 0), list(0, 1, 1), list(1, 1, 1), "...", 0, 2)},
	{"an ante that takes the stack of the first seat", tableOf(list(10, 10, 10, 3), 0, 1, 2, 3), roundOf(list(7, 6, 5, 0), list(0, 1, 2, 0), list(3, 3, 3, 3), "....", 0, 2)},
	{"a stack of less than the ante at the first seat", tableOf(list(10, 10, 10, 2), 0, 1, 2, 3), roundOf(list(7, 6, 5, 0), list(0, 1, 2, 0), list(3, 3, 3, 2), "....", 0, 2)},
	{"one chip more than the ante at the first seat", tableOf(list(10, 10, 10, 4), 0, 1, 2, 3), roundOf(list(7, 6, 5, 1), list(0, 1, 2, 0), list(3, 3, 3, 3), "....", 3, 2)},
	{"antes that take three stacks in a row", tableOf(list(1, 9, 9, 1, 1, 9), 0, 1, 2, 1), roundOf(list(0, 7, 6, 0, 0, 8), list(0, 1, 2, 0, 0, 0), list(1, 1, 1, 1, 1, 1), "......", 5, 2)},
	{"a turn that goes around to the small blind", tableOf(list(1, 9, 9, 1, 1, 1), 0, 1, 2, 1), roundOf(list(0, 7, 6, 0, 0, 0), list(0, 1, 2, 0, 0, 0), list(1, 1, 1, 1, 1, 1), "......", 1, 2)},
	{"a turn that goes around to the big blind", tableOf(list(1, 2, 3), 0, 1, 1, 1), roundOf(list(0, 0, 1), list(0, 1, 1), list(1, 1, 1), "...", 0, 1)},
	{"the big blind has less than the small one", tableOf(list(1, 9, 9), 1, 4, 5, 1), roundOf(list(0, 8, 4), list(0, 0, 4), list(1, 1, 1), "...", 1, 5)},
	{"the small blind has to call alone", tableOf(list(10, 2), 0, 1, 2, 0), roundOf(list(9, 0), list(1, 2), list(0, 0), "..", 0, 2)},
	{"the big blind is alone with chips", tableOf(list(10, 1), 1, 1, 2, 0), roundOf(list(8, 0), list(2, 1), list(0, 0), "..", 1, 2)},
	{"the small blind is alone with chips, matched", tableOf(list(10, 1), 0, 1, 2, 0), roundOf(list(9, 0), list(1, 1), list(0, 0), "..", 0, 2)},
	{"antes that take all stacks", tableOf(list(3, 2, 1), 0, 1, 2, 5), roundOf(list(0, 0, 0), list(0, 0, 0), list(3, 2, 1), "...", 0, 2)},
	{"antes that take all stacks, another button", tableOf(list(3, 2, 1), 1, 1, 2, 3), roundOf(list(0, 0, 0), list(0, 0, 0), list(3, 2, 1), "...", 1, 2)},
	{"antes and blinds that take all stacks", tableOf(list(1, 1, 1, 1, 2, 3), 3, 1, 2, 1), roundOf(list(0, 0, 0, 0, 0, 0), list(0, 0, 0, 0, 1, 2), list(1, 1, 1, 1, 1, 1), "......", 0, 2)},
	{"the greatest numbers", tableOf(list(100000, 100000, 100000, 100000, 100000, 100000), 5, 0, 100000, 0), roundOf(list(100000, 0, 100000, 100000, 100000, 100000), list(0, 100000, 0, 0, 0, 0), list(0, 0, 0, 0, 0, 0), "......", 2, 100000)},
	{"the pot as limit", withLimit(tableOf(list(10, 10), 0, 1, 2, 0), 1), limited(roundOf(list(9, 8), list(1, 2), list(0, 0), "..", 0, 2), 1, 0)},
	{"fixed raises", withLimit(tableOf(list(10, 10), 0, 1, 2, 0), 2), limited(roundOf(list(9, 8), list(1, 2), list(0, 0), "..", 0, 2), 2, 0)},
}

func TestKnownFirstRounds(t *testing.T) {
	for _, c := range knownFirstRounds {
		if got, code := impl.FirstRound(c.table); !sameRound(got, c.want) || code != impl.ErrNone {
			t.Errorf("FirstRound with %s is %+v, %v and not %+v", c.name, got, code, c.want)
		}
	}
}

func TestFirstRounds(t *testing.T) {
	for _, table := range slices.Concat(smallTables(), largeTables(), baseTables(), slices.DeleteFunc(changedTables(), func(table impl.Table) bool { return !isTableAs(table) })) {
		got, code := impl.FirstRound(table)
		if want := firstRoundAs(table); !sameRound(got, want) || code != impl.ErrNone {
			t.Fatalf("FirstRound of %+v is %+v, %v and not %+v", table, got, code, want)
		}
		chips, _ := impl.ChipsAt(table)
		if then, code := impl.ChipsIn(got); then != chips || code != impl.ErrNone {
			t.Fatalf("FirstRound of %+v has %v chips, %v", table, then, code)
		}
		expectClosed(t, got)
		expectShares(t, got)
	}
}

// knownNextRounds are tables, rounds that are closed, and the rounds of the street 1 that follow.
var knownNextRounds = []struct {
	name    string
	table   impl.Table
	b, want impl.Betting
}{
	{"two seats", tableOf(list(10, 10), 0, 1, 2, 0), roundOf(list(8, 8), list(2, 2), list(0, 0), "aa", 1, 2),
		roundOf(list(8, 8), list(0, 0), list(2, 2), "..", 1, 2)},
	{"two seats, the other button", tableOf(list(10, 10), 1, 1, 2, 0), roundOf(list(8, 8), list(2, 2), list(0, 0), "aa", 1, 2),
		roundOf(list(8, 8), list(0, 0), list(2, 2), "..", 0, 2)},
	{"payments and bets", tableOf(list(9, 9, 9), 0, 1, 2, 0), roundOf(list(1, 2, 3), list(4, 4, 2), list(1, 6, 3), "aab", 0, 40),
		roundOf(list(1, 2, 3), list(0, 0, 0), list(5, 10, 5), "..f", 1, 2)},
	{"raises and a limit that stays", tableOf(list(9, 9), 0, 1, 3, 0), limited(roundOf(list(7, 8), list(5, 5), list(1, 1), "aa", 0, 5), 1, 4),
		limited(roundOf(list(7, 8), list(0, 0), list(6, 6), "..", 1, 3), 1, 0)},
	{"the first seat has folded", tableOf(list(9, 9, 9, 9), 1, 1, 2, 0), roundOf(list(7, 7, 7, 7), list(2, 2, 0, 2), list(0, 0, 0, 0), "aaba", 0, 2),
		roundOf(list(7, 7, 7, 7), list(0, 0, 0, 0), list(2, 2, 0, 2), "..f.", 3, 2)},
	{"the first seat has nothing left", tableOf(list(9, 9, 9, 9), 1, 1, 2, 0), roundOf(list(7, 7, 0, 7), list(2, 2, 1, 2), list(0, 0, 0, 0), "aaaa", 0, 2),
		roundOf(list(7, 7, 0, 7), list(0, 0, 0, 0), list(2, 2, 1, 2), "....", 3, 2)},
	{"a turn that goes around", tableOf(list(9, 9, 9, 9), 1, 1, 2, 0), roundOf(list(7, 7, 0, 0), list(2, 2, 1, 2), list(0, 0, 0, 0), "aaaa", 1, 2),
		roundOf(list(7, 7, 0, 0), list(0, 0, 0, 0), list(2, 2, 1, 2), "....", 0, 2)},
	{"the button is alone with chips", tableOf(list(9, 9, 9, 9), 1, 1, 2, 0), roundOf(list(7, 7, 0, 0), list(0, 2, 1, 2), list(0, 0, 0, 0), "baaa", 1, 2),
		roundOf(list(7, 7, 0, 0), list(0, 0, 0, 0), list(0, 2, 1, 2), "f...", 2, 2)},
	{"two can act far from the first seat", tableOf(list(9, 9, 9, 9, 9, 9), 2, 1, 2, 0), roundOf(list(7, 7, 7, 0, 7, 0), list(2, 2, 0, 2, 0, 1), list(0, 0, 0, 0, 0, 0), "aab.b.", 0, 2),
		roundOf(list(7, 7, 7, 0, 7, 0), list(0, 0, 0, 0, 0, 0), list(2, 2, 0, 2, 0, 1), "..f.f.", 0, 2)},
	{"a single seat can act", tableOf(list(9, 9, 9), 2, 1, 2, 0), roundOf(list(0, 7, 7), list(1, 2, 0), list(0, 0, 0), "aab", 1, 2),
		roundOf(list(0, 7, 7), list(0, 0, 0), list(1, 2, 0), "..f", 0, 2)},
	{"no seat can act", tableOf(list(9, 9, 9), 1, 1, 2, 0), roundOf(list(0, 0, 0), list(1, 2, 3), list(4, 5, 6), "aaa", 0, 2),
		roundOf(list(0, 0, 0), list(0, 0, 0), list(5, 7, 9), "...", 2, 2)},
	{"seats that have not acted", tableOf(list(9, 9), 0, 1, 2, 0), roundOf(list(0, 8), list(1, 2), list(0, 0), "..", 0, 9),
		roundOf(list(0, 8), list(0, 0), list(1, 2), "..", 1, 2)},
	{"all chips there are", tableOf(list(1, 1), 0, 0, 100000, 0), roundOf(list(0, 0), list(0, 100000), list(400000, 100000), "aa", 0, 1),
		roundOf(list(0, 0), list(0, 0), list(400000, 200000), "..", 1, 100000)},
}

func TestKnownNextRounds(t *testing.T) {
	for _, c := range knownNextRounds {
		for street := int64(1); street <= 3; street++ {
			if got, code := impl.NextRound(c.table, c.b, street); !sameRound(got, c.want) || code != impl.ErrNone {
				t.Errorf("NextRound with %s and the street %v is %+v, %v and not %+v", c.name, street, got, code, c.want)
			}
			expectNext(t, c.table, c.b, street)
		}
	}
}

// The unit is that of the table and the street, whatever the unit and the limit of the round were.
func TestUnitsOfStreets(t *testing.T) {
	b := roundOf(list(8, 8), list(2, 2), list(0, 0), "aa", 1, 7)
	for _, c := range []struct {
		big, limit int64
		want       [4]int64
	}{
		{2, impl.LimitNone, [4]int64{2, 2, 2, 2}},
		{2, impl.LimitPot, [4]int64{2, 2, 2, 2}},
		{2, impl.LimitFixed, [4]int64{2, 2, 4, 4}},
		{1, impl.LimitFixed, [4]int64{1, 1, 2, 2}},
		{49999, impl.LimitFixed, [4]int64{49999, 49999, 99998, 99998}},
		{50000, impl.LimitFixed, [4]int64{50000, 50000, 100000, 100000}},
		{50001, impl.LimitFixed, [4]int64{50001, 50001, 100000, 100000}},
		{100000, impl.LimitFixed, [4]int64{100000, 100000, 100000, 100000}},
		{100000, impl.LimitNone, [4]int64{100000, 100000, 100000, 100000}},
	} {
		table := withLimit(tableOf(list(10, 10), 0, 1, c.big, 0), c.limit)
		if first, code := impl.FirstRound(table); first.Unit != c.want[0] || first.Limit != c.limit || code != impl.ErrNone {
			t.Errorf("FirstRound of %+v is %+v, %v", table, first, code)
		}
		for limit := range int64(3) {
			for street := int64(1); street <= 3; street++ {
				want := limited(roundOf(list(8, 8), list(0, 0), list(2, 2), "..", 1, c.want[street]), limit, 0)
				if got, code := impl.NextRound(table, limited(b, limit, 1), street); !sameRound(got, want) || code != impl.ErrNone {
					t.Errorf("NextRound of %+v, the limit %v and the street %v is %+v, %v", table, limit, street, got, code)
				}
			}
		}
	}
}

// tablesOf are valid tables with a number of seats, with each button and each limit.
func tablesOf(seats int) []impl.Table {
	var tables []impl.Table
	for _, table := range baseTables() {
		for limit := range int64(3) {
			if len(table.Stacks) == seats {
				tables = append(tables, withLimit(table, limit))
			}
		}
	}
	return tables
}

// Rounds that are open have no next one, and become closed ones by checks and calls.
func TestNextRounds(t *testing.T) {
	tables := map[int][]impl.Table{}
	for seats := 2; seats <= 6; seats++ {
		tables[seats] = tablesOf(seats)
	}
	followed := 0
	for i, b := range slices.Concat(smallRounds(), randomRounds()) {
		same := tables[len(b.Stacks)]
		for k, round := range []impl.Betting{b, first(checkedDownAs(b))} {
			table, street := same[(i+k)%len(same)], int64((i/7+k)%3+1)
			expectNext(t, table, round, street)
			if nextCodeAs(table, round, street) == impl.ErrNone {
				followed++
			}
		}
	}
	if followed < 50000 {
		t.Error("only", followed, "rounds have a next one")
	}
}

// first is the round of two results.
func first(b impl.Betting, _ []impl.Action) impl.Betting { return b }

// All tables with all rounds of some kinds, in all streets and in some numbers that are none.
func TestStreetsAndSeatsOfNextRounds(t *testing.T) {
	rounds := []impl.Betting{
		roundOf(list(8, 8), list(2, 2), list(0, 0), "aa", 1, 2),
		roundOf(list(9, 8), list(1, 2), list(0, 0), "..", 0, 2),
		roundOf(list(9, 8), list(1, 2), list(0, 0), "b.", 0, 2),
		roundOf(list(8, 8, 8), list(2, 2, 2), list(0, 0, 0), "aaa", 1, 2),
		roundOf(list(9, 8, 7), list(1, 2, 0), list(0, 0, 0), "...", 0, 2),
		roundOf(list(9, 8, 7), list(1, 2, 0), list(0, 0, 0), "fbf", 0, 2),
		roundOf(list(0, 0, 0, 0, 0), list(0, 0, 0, 0, 0), list(2, 2, 2, 2, 2), "aaaaf", 1, 2),
		roundOf(list(8, 8, 8, 8, 8, 8), list(2, 2, 2, 2, 2, 2), list(0, 0, 0, 0, 0, 0), "aaaaaa", 1, 2),
	}
	for _, table := range baseTables() {
		for _, b := range rounds {
			for _, street := range slices.Concat(list(-2, -1, 0, 1, 2, 3, 4, 5, 6, 255, 256, 257), farNumbers) {
				expectNext(t, table, b, street)
			}
		}
	}
}

// The errors come in their order: a table or a round that is not valid, a street or a number of seats,
// and a round that is open or in which a single seat has not folded.
func TestFirstErrorOfNextRound(t *testing.T) {
	table, wrongTable := tableOf(list(10, 10), 0, 1, 2, 0), tableOf(list(10, 0), 0, 1, 2, 0)
	closed := roundOf(list(8, 8), list(2, 2), list(0, 0), "aa", 1, 2)
	open := roundOf(list(9, 8), list(1, 2), list(0, 0), "..", 0, 2)
	two := roundOf(list(8, 8, 8), list(2, 2, 2), list(0, 0, 0), "aba", 1, 2)
	single := roundOf(list(8, 8, 8), list(2, 2, 2), list(0, 0, 0), "abb", 1, 2)
	openSingle := roundOf(list(9, 8), list(1, 2), list(0, 0), ".f", 0, 2)
	wrong := roundOf(list(8, 8), list(2, 2), list(0, 0), "bb", 1, 2)
	three := tableOf(list(10, 10, 10), 0, 1, 2, 0)
	for _, c := range []struct {
		table  impl.Table
		b      impl.Betting
		street int64
		want   int64
	}{
		{table, closed, 1, impl.ErrNone},
		{table, closed, 3, impl.ErrNone},
		{three, two, 2, impl.ErrNone},
		{wrongTable, closed, 1, impl.ErrInvalid},
		{table, wrong, 1, impl.ErrInvalid},
		{wrongTable, wrong, 1, impl.ErrInvalid},
		{wrongTable, closed, 0, impl.ErrInvalid},
		{table, wrong, 4, impl.ErrInvalid},
		{wrongTable, two, 1, impl.ErrInvalid},
		{three, wrong, 1, impl.ErrInvalid},
		{wrongTable, open, 1, impl.ErrInvalid},
		{wrongTable, openSingle, -1, impl.ErrInvalid},
		{table, closed, -1, impl.ErrRange},
		{table, closed, 0, impl.ErrRange},
		{table, closed, 4, impl.ErrRange},
		{table, two, 1, impl.ErrRange},
		{three, closed, 1, impl.ErrRange},
		{three, closed, 0, impl.ErrRange},
		{table, open, 0, impl.ErrRange},
		{table, open, 4, impl.ErrRange},
		{three, open, 1, impl.ErrRange},
		{table, single, 1, impl.ErrRange},
		{three, single, 4, impl.ErrRange},
		{table, open, 1, impl.ErrState},
		{three, single, 1, impl.ErrState},
		{table, openSingle, 3, impl.ErrState},
	} {
		if got, code := impl.NextRound(c.table, c.b, c.street); code != c.want || isZeroRound(got) != (code != impl.ErrNone) {
			t.Errorf("NextRound of %+v, %+v, %v is %+v, %v", c.table, c.b, c.street, got, code)
		}
	}
}

// knownRuns are actions behind a round, how many of them can be applied, the error, and the round behind
// those.
var knownRuns = []struct {
	name  string
	b     impl.Betting
	list  []impl.Action
	count int64
	code  int64
	want  impl.Betting
}{
	{"no actions", roundOf(list(9, 8), list(1, 2), list(0, 0), "..", 0, 2), nil, 0, impl.ErrNone,
		roundOf(list(9, 8), list(1, 2), list(0, 0), "..", 0, 2)},
	{"no actions in a round that is not open", roundOf(list(9, 8), list(1, 2), list(0, 0), "b.", 0, 2), []impl.Action{}, 0, impl.ErrNone,
		roundOf(list(9, 8), list(1, 2), list(0, 0), "b.", 0, 2)},
	{"a call and a check", roundOf(list(9, 8), list(1, 2), list(0, 0), "..", 0, 2), []impl.Action{act(2), act(1)}, 2, impl.ErrNone,
		roundOf(list(8, 8), list(2, 2), list(0, 0), "aa", 1, 2)},
	{"raises and a call for less", roundOf(list(9, 8), list(1, 2), list(3, 3), "..", 0, 2), []impl.Action{raiseTo(4), raiseTo(7), raiseTo(10), act(2)}, 4, impl.ErrNone,
		limited(roundOf(list(0, 0), list(10, 10), list(3, 3), "aa", 1, 3), 0, 3)},
	{"a fold that ends the round", roundOf(list(9, 8), list(1, 2), list(0, 0), "..", 0, 2), []impl.Action{act(0)}, 1, impl.ErrNone,
		roundOf(list(9, 8), list(1, 2), list(0, 0), "b.", 0, 2)},
	{"the first one is none of the choices", roundOf(list(9, 8), list(1, 2), list(0, 0), "..", 0, 2), []impl.Action{act(1), act(2)}, 0, impl.ErrRange,
		roundOf(list(9, 8), list(1, 2), list(0, 0), "..", 0, 2)},
	{"one in the middle is none of the choices", roundOf(list(9, 8), list(1, 2), list(0, 0), "..", 0, 2), []impl.Action{raiseTo(4), act(1), act(2)}, 1, impl.ErrRange,
		limited(roundOf(list(6, 8), list(4, 2), list(0, 0), "a.", 1, 2), 0, 1)},
	{"the last one is no action", roundOf(list(9, 8), list(1, 2), list(0, 0), "..", 0, 2), []impl.Action{act(2), {Kind: 4}}, 1, impl.ErrRange,
		roundOf(list(8, 8), list(2, 2), list(0, 0), "a.", 1, 2)},
	{"one is too many", roundOf(list(9, 8), list(1, 2), list(0, 0), "..", 0, 2), []impl.Action{act(2), act(1), act(1)}, 2, impl.ErrState,
		roundOf(list(8, 8), list(2, 2), list(0, 0), "aa", 1, 2)},
	{"one that is no action is too many", roundOf(list(9, 8), list(1, 2), list(0, 0), "..", 0, 2), []impl.Action{act(0), {Kind: -1}, act(1)}, 1, impl.ErrState,
		roundOf(list(9, 8), list(1, 2), list(0, 0), "b.", 0, 2)},
	{"the round was not open", roundOf(list(8, 8), list(2, 2), list(0, 0), "aa", 1, 2), []impl.Action{act(1)}, 0, impl.ErrState,
		roundOf(list(8, 8), list(2, 2), list(0, 0), "aa", 1, 2)},
	{"a raise of more than MaxStack at the end", roundOf(list(150000, 150000), list(0, 0), list(0, 0), "..", 0, 1), []impl.Action{act(1), raiseTo(100001)}, 2, impl.ErrNone,
		limited(roundOf(list(150000, 49999), list(0, 100001), list(0, 0), ".a", 0, 100001), 0, 1)},
	{"a raise of more than MaxStack before another action", roundOf(list(150000, 150000), list(0, 0), list(0, 0), "..", 0, 1), []impl.Action{act(1), raiseTo(100001), act(2), act(1)}, 2, impl.ErrInvalid,
		limited(roundOf(list(150000, 49999), list(0, 100001), list(0, 0), ".a", 0, 100001), 0, 1)},
	{"a raise of more than MaxStack before what is no action", roundOf(list(150000, 150000), list(0, 0), list(0, 0), "..", 0, 1), []impl.Action{raiseTo(100001), {Kind: 9}}, 1, impl.ErrInvalid,
		limited(roundOf(list(49999, 150000), list(100001, 0), list(0, 0), "a.", 1, 100001), 0, 1)},
	{"a raise of MaxStack before other actions", roundOf(list(150000, 150000), list(0, 0), list(0, 0), "..", 0, 1), []impl.Action{act(1), raiseTo(100000), act(2)}, 3, impl.ErrNone,
		limited(roundOf(list(50000, 50000), list(100000, 100000), list(0, 0), "aa", 0, 100000), 0, 1)},
	{"three seats", roundOf(list(10, 9, 8), list(0, 1, 2), list(1, 1, 1), "...", 0, 2), []impl.Action{act(0), raiseTo(6), act(2)}, 3, impl.ErrNone,
		limited(roundOf(list(10, 4, 4), list(0, 6, 6), list(1, 1, 1), "faa", 2, 4), 0, 1)},
}

func TestKnownRuns(t *testing.T) {
	for _, c := range knownRuns {
		if got, count, code := impl.RunActions(c.b, c.list); !sameRound(got, c.want) || count != c.count || code != c.code {
			t.Errorf("RunActions with %s is %+v, %v, %v and not %+v, %v, %v", c.name, got, count, code, c.want, c.count, c.code)
		}
		expectRun(t, c.b, c.list)
	}
}

// raisesFrom1 are so many raises by one chip each, all of which can be applied to roundOfRaises.
func raisesFrom1(count int) []impl.Action {
	actions := []impl.Action{}
	for amount := range int64(count) {
		actions = append(actions, raiseTo(amount+1))
	}
	return actions
}

func roundOfRaises() impl.Betting {
	return roundOf(list(300000, 300000), list(0, 0), list(0, 0), "..", 0, 1)
}

// Up to MaxActions actions are applied; a longer list is ErrLimit, whatever it has.
func TestLengthsOfRuns(t *testing.T) {
	b, invalid := roundOfRaises(), roundOfRaises()
	invalid.Unit = 0
	closed := roundOf(list(8, 8), list(2, 2), list(0, 0), "aa", 1, 2)
	for _, length := range []int{0, 1, 2, 99, 100, 101, 102, 200, 256, 356, 1000} {
		actions := raisesFrom1(length)
		got, count, code := impl.RunActions(b, actions)
		switch {
		case length <= 100:
			expectRun(t, b, actions)
			if count != int64(length) || code != impl.ErrNone || slices.Max(got.Bets) != int64(length) {
				t.Errorf("RunActions of %v raises is %+v, %v, %v", length, got, count, code)
			}
			// The last one cannot be applied.
			if length > 0 {
				actions[length-1] = act(impl.ActRaise)
				expectRun(t, b, actions)
				if _, count, code := impl.RunActions(b, actions); count != int64(length)-1 || code != impl.ErrRange {
					t.Errorf("RunActions of %v raises, the last of them wrong, is %v, %v", length, count, code)
				}
			}
		case !isZeroRound(got) || count != 0 || code != impl.ErrLimit:
			t.Errorf("RunActions of %v raises is %+v, %v, %v", length, got, count, code)
		default:
			actions[0] = act(-1)
			for name, round := range map[string]impl.Betting{"open": b, "closed": closed} {
				if got, count, code := impl.RunActions(round, actions); !isZeroRound(got) || count != 0 || code != impl.ErrLimit {
					t.Errorf("RunActions of an %s round and %v actions that are none is %+v, %v, %v", name, length, got, count, code)
				}
			}
		}
		if got, count, code := impl.RunActions(invalid, actions); !isZeroRound(got) || count != 0 || code != impl.ErrInvalid {
			t.Errorf("RunActions of an invalid round and %v actions is %+v, %v, %v", length, got, count, code)
		}
	}
}

// randomActions are mostly legal ones, one behind the other.
func randomActions(source *rand.Rand, b impl.Betting) []impl.Action {
	var actions []impl.Action
	for range source.Intn(12) {
		choices := actionsFor(b)
		if isOpenAs(b) && source.Intn(8) > 0 {
			choices = legalIn(b)
		}
		a := choices[source.Intn(len(choices))]
		if actions = append(actions, a); isLegalAs(b, a) {
			b = appliedAs(b, a)
		}
	}
	return actions
}

// A list can be run in two parts at any place, also behind an action that cannot be applied.
func TestRunsInTwoParts(t *testing.T) {
	source := rand.New(rand.NewSource(11))
	codes := map[int64]int{}
	for _, b := range slices.Concat(randomRounds(), someRounds()) {
		actions := randomActions(source, b)
		expectRun(t, b, actions)
		whole, count, code := impl.RunActions(b, actions)
		codes[code]++
		place := source.Intn(len(actions) + 1)
		if !isBettingAs(whole) {
			continue
		}
		part, before, partCode := impl.RunActions(b, actions[:place])
		if partCode != impl.ErrNone {
			if !sameRound(part, whole) || before != count || partCode != code {
				t.Fatalf("RunActions of %+v, %v is %+v, %v, %v", b, actions[:place], part, before, partCode)
			}
			continue
		}
		rest, behind, restCode := impl.RunActions(part, actions[place:])
		if !sameRound(rest, whole) || before+behind != count || restCode != code || before != int64(place) {
			t.Fatalf("RunActions of %+v, %v is %+v, %v, %v in two parts", b, actions, rest, before+behind, restCode)
		}
	}
	for _, code := range []int64{impl.ErrNone, impl.ErrRange, impl.ErrState} {
		if codes[code] < 1000 {
			t.Error("only", codes[code], "runs end with the error", code)
		}
	}
}

// knownCheckDowns are rounds, and those that are left when all seats check or call.
var knownCheckDowns = []struct {
	name    string
	b, want impl.Betting
	count   int64
}{
	{"a call and a check", roundOf(list(9, 8), list(1, 2), list(0, 0), "..", 0, 2), roundOf(list(8, 8), list(2, 2), list(0, 0), "aa", 1, 2), 2},
	{"a single call", roundOf(list(9, 8), list(1, 2), list(0, 0), ".a", 0, 2), roundOf(list(8, 8), list(2, 2), list(0, 0), "aa", 0, 2), 1},
	{"checks", roundOf(list(9, 8, 7), list(0, 0, 0), list(3, 3, 3), "...", 2, 2), roundOf(list(9, 8, 7), list(0, 0, 0), list(3, 3, 3), "aaa", 1, 2), 3},
	{"a call for less", roundOf(list(3, 9, 9), list(1, 8, 8), list(0, 0, 0), ".aa", 0, 6), roundOf(list(0, 9, 9), list(4, 8, 8), list(0, 0, 0), "aaa", 0, 6), 1},
	{"calls for less of all", roundOf(list(3, 4, 0, 1), list(1, 0, 8, 0), list(0, 0, 0, 0), "..a.", 3, 6), roundOf(list(0, 0, 0, 0), list(4, 4, 8, 1), list(0, 0, 0, 0), "aaaa", 1, 6), 3},
	{"a call of a single seat that can act", roundOf(list(9, 0), list(1, 2), list(0, 0), "..", 0, 2), roundOf(list(8, 0), list(2, 2), list(0, 0), "a.", 0, 2), 1},
	{"a call of a single seat that has not folded", roundOf(list(9, 9), list(1, 2), list(0, 0), ".f", 0, 2), roundOf(list(8, 9), list(2, 2), list(0, 0), "af", 0, 2), 1},
	{"folded seats and empty ones", roundOf(list(9, 9, 9, 0, 9, 9), list(2, 0, 1, 1, 0, 2), list(0, 0, 0, 0, 0, 0), "af..fa", 2, 2), roundOf(list(9, 9, 8, 0, 9, 9), list(2, 0, 2, 1, 0, 2), list(0, 0, 0, 0, 0, 0), "afa.fa", 2, 2), 1},
	{"raises that stay", limited(roundOf(list(9, 9), list(4, 10), list(0, 0), ".a", 0, 6), 2, 3), limited(roundOf(list(3, 9), list(10, 10), list(0, 0), "aa", 0, 6), 2, 3), 1},
	{"all six seats", roundOf(list(9, 9, 9, 9, 8, 7), list(0, 0, 0, 0, 1, 2), list(1, 1, 1, 1, 1, 1), "......", 0, 2), roundOf(list(7, 7, 7, 7, 7, 7), list(2, 2, 2, 2, 2, 2), list(1, 1, 1, 1, 1, 1), "aaaaaa", 5, 2), 6},
	{"not open: all have acted", roundOf(list(8, 8), list(2, 2), list(0, 0), "aa", 1, 2), roundOf(list(8, 8), list(2, 2), list(0, 0), "aa", 1, 2), 0},
	{"not open: a seat that has to act is not the turn", roundOf(list(9, 8), list(1, 2), list(0, 0), ".a", 1, 2), roundOf(list(9, 8), list(1, 2), list(0, 0), ".a", 1, 2), 0},
	{"not open: folded", roundOf(list(9, 8, 9), list(1, 2, 0), list(0, 0, 0), "f..", 0, 2), roundOf(list(9, 8, 9), list(1, 2, 0), list(0, 0, 0), "f..", 0, 2), 0},
	{"not open: no chips", roundOf(list(0, 0), list(1, 2), list(0, 0), "..", 0, 2), roundOf(list(0, 0), list(1, 2), list(0, 0), "..", 0, 2), 0},
}

func TestKnownCheckDowns(t *testing.T) {
	for _, c := range knownCheckDowns {
		if got, count, code := impl.CheckDown(c.b); !sameRound(got, c.want) || count != c.count || code != impl.ErrNone {
			t.Errorf("CheckDown with %s is %+v, %v, %v and not %+v, %v", c.name, got, count, code, c.want, c.count)
		}
		expectClosed(t, c.b)
	}
}

func TestRoundsAreClosed(t *testing.T) {
	for _, b := range slices.Concat(smallRounds(), randomRounds()) {
		expectClosed(t, b)
		expectShares(t, b)
	}
}

// knownEnds are rounds, whether they are settled, what each seat has paid in all, and the winner by folds
// or -1.
var knownEnds = []struct {
	name      string
	b         impl.Betting
	isSettled bool
	sums      []int64
	winner    int64
}{
	{"open", roundOf(list(9, 8), list(1, 2), list(3, 4), "..", 0, 2), false, list(4, 6), -1},
	{"closed, two can act", roundOf(list(8, 8), list(2, 2), list(5, 0), "aa", 1, 2), false, list(7, 2), -1},
	{"not the turn of the seat that has to act", roundOf(list(9, 8), list(1, 2), list(0, 0), ".a", 1, 2), false, list(1, 2), -1},
	{"one is left", roundOf(list(9, 8), list(1, 2), list(0, 0), "b.", 0, 2), true, list(1, 2), 1},
	{"one is left, the first one", roundOf(list(9, 8, 7), list(5, 2, 0), list(0, 0, 0), ".ff", 0, 2), true, list(5, 2, 0), 0},
	{"one is left, the last one of six", roundOf(list(9, 8, 7, 6, 5, 4), list(5, 2, 0, 1, 2, 5), list(1, 2, 3, 4, 5, 6), "bffffa", 0, 2), true, list(6, 4, 3, 5, 7, 11), 5},
	{"one is left, without chips", roundOf(list(9, 0), list(1, 2), list(0, 0), "b.", 0, 2), true, list(1, 2), 1},
	{"one is left and has to act", roundOf(list(9, 8), list(1, 2), list(0, 0), ".f", 0, 2), false, list(1, 2), 0},
	{"two are left, and one can act", roundOf(list(9, 0), list(2, 2), list(0, 0), "aa", 0, 2), true, list(2, 2), -1},
	{"two are left, one can act and has to", roundOf(list(9, 0), list(1, 2), list(0, 0), ".a", 0, 2), false, list(1, 2), -1},
	{"two are left, one can act and has to, and it is not its turn", roundOf(list(9, 0), list(1, 2), list(0, 0), ".a", 1, 2), true, list(1, 2), -1},
	{"two are left, and none can act", roundOf(list(0, 0), list(1, 2), list(0, 0), "..", 0, 2), true, list(1, 2), -1},
	{"three are left, and one can act", roundOf(list(0, 9, 0), list(2, 2, 1), list(0, 0, 0), "aaa", 1, 2), true, list(2, 2, 1), -1},
	{"three are left, and two can act", roundOf(list(9, 9, 0), list(2, 2, 1), list(0, 0, 0), "aaa", 1, 2), false, list(2, 2, 1), -1},
	{"two are left, and a folded one has chips, too", roundOf(list(9, 9, 0), list(2, 2, 1), list(0, 0, 0), "aba", 1, 2), true, list(2, 2, 1), -1},
	{"two are left, and both can act", roundOf(list(9, 9, 9), list(2, 2, 1), list(0, 0, 0), "aab", 1, 2), false, list(2, 2, 1), -1},
	{"no chips at all", roundOf(list(0, 0), list(0, 0), list(0, 0), "..", 0, 2), true, list(0, 0), -1},
	{"all chips there are", roundOf(list(0, 0), list(300000, 0), list(0, 300000), "..", 0, 2), true, list(300000, 300000), -1},
	{"all chips there are, at one seat", roundOf(list(0, 0), list(300000, 0), list(300000, 0), "..", 0, 2), true, list(600000, 0), -1},
}

func TestKnownEnds(t *testing.T) {
	for _, c := range knownEnds {
		if got := impl.IsSettled(c.b); got != c.isSettled {
			t.Error("IsSettled with", c.name, "is", got)
		}
		if got, code := impl.Contributions(c.b); !slices.Equal(got, c.sums) || code != impl.ErrNone {
			t.Error("Contributions with", c.name, "is", got, code)
		}
		winner, wantCode := c.winner, int64(impl.ErrNone)
		if winner < 0 {
			winner, wantCode = 0, impl.ErrState
		}
		if got, code := impl.WinnerByFolds(c.b); got != winner || code != wantCode {
			t.Error("WinnerByFolds with", c.name, "is", got, code)
		}
	}
}

// Behind a round that is settled, no street has any actions, and behind another closed one each has.
func TestStreetsBehindRounds(t *testing.T) {
	tables := map[int]impl.Table{}
	for _, table := range baseTables() {
		tables[len(table.Stacks)] = table
	}
	settled, others := 0, 0
	for i, b := range slices.Concat(randomRounds(), someRounds()) {
		closed, _, _ := impl.CheckDown(b)
		next, code := impl.NextRound(tables[len(b.Stacks)], closed, int64(i%3)+1)
		switch {
		case code != impl.ErrNone:
			if !impl.IsSettled(closed) {
				t.Fatalf("%+v is not settled", closed)
			}
		case impl.IsOpen(next) == impl.IsSettled(closed) || impl.IsSettled(next) != impl.IsSettled(closed):
			t.Fatalf("behind %+v the round is %+v", closed, next)
		case impl.IsSettled(closed):
			settled++
		default:
			others++
		}
	}
	if settled < 1000 || others < 1000 {
		t.Error("only", settled, "rounds are settled, and", others, "are not")
	}
}

// playStreet runs random actions in a round that is open, few of them folds, and lets the seats check and
// call then.
func playStreet(t *testing.T, source *rand.Rand, b impl.Betting) impl.Betting {
	t.Helper()
	for range source.Intn(8) {
		if !impl.IsOpen(b) {
			break
		}
		legal := legalIn(b)
		a := legal[source.Intn(len(legal))]
		if a.Kind == impl.ActFold && source.Intn(4) > 0 {
			a = legal[1]
		}
		next, count, code := impl.RunActions(b, []impl.Action{a})
		if count != 1 || code != impl.ErrNone {
			t.Fatalf("RunActions of %+v, %v is %+v, %v, %v", b, a, next, count, code)
		}
		b = next
	}
	expectClosed(t, b)
	closed, _, code := impl.CheckDown(b)
	if code != impl.ErrNone || impl.IsOpen(closed) {
		t.Fatalf("CheckDown of %+v is %+v, %v", b, closed, code)
	}
	return closed
}

// Hands are played from street to street; at each place the chips are those of the table, and no seat
// has more or less than what it came with.
func TestChipsFromStreetToStreet(t *testing.T) {
	source := rand.New(rand.NewSource(111))
	reached := [4]int{}
	for _, table := range slices.Concat(largeTables(), largeTables(), baseTables(), largeTables()) {
		b, code := impl.FirstRound(table)
		for street := int64(0); code == impl.ErrNone && street < 4; street++ {
			reached[street]++
			b = playStreet(t, source, b)
			expectShares(t, b)
			sums, _ := impl.Contributions(b)
			for seat, stack := range table.Stacks {
				if b.Stacks[seat]+sums[seat] != stack {
					t.Fatalf("in %+v the seat %v has no longer %v chips", b, seat, stack)
				}
			}
			if pot, _ := impl.PotIn(b); pot != sumOf(sums) || b.Limit != table.Limit {
				t.Fatalf("the pot of %+v is %v", b, pot)
			}
			expectNext(t, table, b, street+1)
			b, code = impl.NextRound(table, b, street+1)
		}
	}
	if reached[3] < 500 {
		t.Error("the streets have been reached", reached, "times")
	}
}

// A hand with four streets, step by step.
func TestKnownStreets(t *testing.T) {
	table := withLimit(tableOf(list(40, 30, 6), 2, 1, 2, 1), impl.LimitFixed)
	b, _ := impl.FirstRound(table)
	for street, c := range []struct {
		list []impl.Action
		want impl.Betting
	}{
		{[]impl.Action{act(2), act(2), act(1)}, limited(roundOf(list(37, 27, 3), list(2, 2, 2), list(1, 1, 1), "aaa", 1, 2), 2, 0)},
		{[]impl.Action{raiseTo(2), act(2), raiseTo(3), act(2), act(2)}, limited(roundOf(list(34, 24, 0), list(3, 3, 3), list(3, 3, 3), "aaa", 1, 2), 2, 2)},
		{[]impl.Action{act(1), raiseTo(4), raiseTo(8), act(2)}, limited(roundOf(list(26, 16, 0), list(8, 8, 0), list(6, 6, 6), "aa.", 1, 4), 2, 2)},
		{[]impl.Action{raiseTo(4), act(0)}, limited(roundOf(list(22, 16, 0), list(4, 0, 0), list(14, 14, 6), "ab.", 1, 4), 2, 1)},
	} {
		closed, count, code := impl.RunActions(b, c.list)
		if !sameRound(closed, c.want) || count != int64(len(c.list)) || code != impl.ErrNone || impl.IsOpen(closed) {
			t.Fatalf("the street %v ends with %+v, %v, %v and not %+v", street, closed, count, code, c.want)
		}
		if impl.IsSettled(closed) != (street == 3) {
			t.Errorf("IsSettled of %+v is %v", closed, street != 3)
		}
		b, _ = impl.NextRound(table, closed, int64(street)+1)
	}
}

func TestFirstRoundsOfInvalidTables(t *testing.T) {
	for _, table := range invalidTables() {
		if got, code := impl.FirstRound(table); !isZeroRound(got) || code != impl.ErrInvalid {
			t.Fatalf("FirstRound of %+v is %+v, %v", table, got, code)
		}
		for _, street := range []int64{1, 3, 0, 4} {
			for _, b := range []impl.Betting{{}, roundOf(list(8, 8), list(2, 2), list(0, 0), "aa", 1, 2), roundOf(list(9, 8), list(1, 2), list(0, 0), "..", 0, 2)} {
				if got, code := impl.NextRound(table, b, street); !isZeroRound(got) || code != impl.ErrInvalid {
					t.Fatalf("NextRound of %+v, %+v, %v is %+v, %v", table, b, street, got, code)
				}
			}
		}
	}
}

func TestStreetsOfInvalidRounds(t *testing.T) {
	table := tableOf(list(10, 10), 0, 1, 2, 0)
	for _, b := range invalidRounds() {
		for _, street := range []int64{1, 3, 0, 4} {
			if got, code := impl.NextRound(table, b, street); !isZeroRound(got) || code != impl.ErrInvalid {
				t.Fatalf("NextRound of %+v, %v is %+v, %v", b, street, got, code)
			}
		}
		for _, length := range []int{0, 1, 100, 101} {
			if got, count, code := impl.RunActions(b, raisesFrom1(length)); !isZeroRound(got) || count != 0 || code != impl.ErrInvalid {
				t.Fatalf("RunActions of %+v and %v actions is %+v, %v, %v", b, length, got, count, code)
			}
		}
		closed, count, first := impl.CheckDown(b)
		sums, second := impl.Contributions(b)
		winner, third := impl.WinnerByFolds(b)
		if !slices.Equal(list(first, second, third), list(1, 1, 1)) || !isZeroRound(closed) || count != 0 || len(sums) != 0 || winner != 0 || impl.IsSettled(b) {
			t.Fatalf("the functions of %+v return %+v, %v, %v, %v and %v, %v, %v", b, closed, count, sums, winner, first, second, third)
		}
	}
}

// Of a table, only its seats, Big and its limit matter: its stacks need not be those of the round.
func TestNextRoundsOfOtherTables(t *testing.T) {
	b := roundOf(list(0, 5), list(2, 7), list(0, 0), "aa", 0, 9)
	for seats := 2; seats <= 6; seats++ {
		for _, table := range tablesOf(seats) {
			expectNext(t, table, b, 3)
		}
	}
	want, _ := impl.NextRound(tableOf(list(10, 10), 0, 1, 2, 0), b, 3)
	for _, table := range []impl.Table{tableOf(list(1, 100000), 0, 0, 2, 0), tableOf(list(7, 7), 0, 2, 2, 100000), withLimit(tableOf(list(3, 4), 0, 1, 2, 9), 1)} {
		if got, code := impl.NextRound(table, b, 3); !sameRound(got, want) || code != impl.ErrNone {
			t.Errorf("NextRound of %+v is %+v, %v and not %+v", table, got, code, want)
		}
	}
}

// guardedActions returns a copy of the list with known values in its spare capacity.
func guardedActions(list []impl.Action) []impl.Action {
	long := append(slices.Clone(list), raiseTo(77), raiseTo(78))
	return long[:len(list)]
}

func sameAsGuardedActions(kept, list []impl.Action) bool {
	return slices.Equal(kept[:len(list)+2], append(slices.Clone(list), raiseTo(77), raiseTo(78)))
}

// callStreets calls all functions of the chapter, and returns the rounds that they return.
func callStreets(table impl.Table, b impl.Betting, actions []impl.Action) []impl.Betting {
	first, _ := impl.FirstRound(table)
	next, _ := impl.NextRound(table, b, 2)
	run, _, _ := impl.RunActions(b, actions)
	closed, _, _ := impl.CheckDown(b)
	impl.IsSettled(b)
	impl.Contributions(b)
	impl.WinnerByFolds(b)
	return []impl.Betting{first, next, run, closed}
}

// Overwriting one list of a round that is returned changes nothing else, and the arguments stay as they
// were.
func TestStreetResultsAreNew(t *testing.T) {
	source := rand.New(rand.NewSource(112))
	tables := baseTables()
	for i, b := range slices.Concat(someRounds(), invalidRounds()[:500]) {
		table := copyOfTable(tables[i%len(tables)])
		if same := tablesOf(len(b.Stacks)); len(same) > 0 {
			table = same[i%len(same)]
		}
		var actions []impl.Action
		if isBettingAs(b) {
			actions = randomActions(source, b)
		}
		keptTable, keptRound, keptActions := copyOfTable(table), guardedRound(b), guardedActions(actions)
		keptTable.Stacks = guarded(table.Stacks)
		for number, want := range callStreets(keptTable, keptRound, keptActions) {
			call := func() impl.Betting { return callStreets(keptTable, keptRound, keptActions)[number] }
			if !givesNewRounds(call) || !sameRound(call(), want) {
				t.Fatalf("the function %v of %+v, %+v, %v shares memory", number, table, b, actions)
			}
		}
		sums := func() []int64 { got, _ := impl.Contributions(keptRound); return got }
		if !givesNewLists(sums) {
			t.Fatalf("Contributions of %+v shares memory", b)
		}
		if !sameAsGuarded(keptTable.Stacks, table.Stacks) || !sameAsGuardedRound(keptRound, b) || !sameAsGuardedActions(keptActions, actions) {
			t.Fatalf("%+v, %+v, %v have become %+v, %+v, %v", table, b, actions, keptTable, keptRound, keptActions)
		}
	}
}

// The lists of an argument may share memory; those of a result do not.
func TestStreetsWithListsThatAreTheSame(t *testing.T) {
	chips, flags := list(5, 5, 5), []bool{false, false, false}
	b := impl.Betting{Stacks: chips, Bets: chips, Paid: chips, Folded: flags, Acted: flags, Turn: 2, Unit: 2}
	closed, count, code := impl.CheckDown(b)
	if want := roundOf(list(5, 5, 5), list(5, 5, 5), list(5, 5, 5), "aaa", 1, 2); !sameRound(closed, want) || count != 3 || code != impl.ErrNone {
		t.Errorf("CheckDown is %+v, %v, %v", closed, count, code)
	}
	b.Acted = []bool{true, true, true}
	table := tableOf(chips, 0, 1, 2, 0)
	next, code := impl.NextRound(table, b, 1)
	if want := roundOf(list(5, 5, 5), list(0, 0, 0), list(10, 10, 10), "...", 1, 2); !sameRound(next, want) || code != impl.ErrNone {
		t.Errorf("NextRound is %+v, %v", next, code)
	}
	for number := range 5 {
		next, _ = impl.NextRound(table, b, 1)
		overwriteList(next, number)
		if !slices.Equal(chips, list(5, 5, 5)) || slices.Contains(flags, true) || slices.Contains(b.Acted, false) {
			t.Error("the argument has become", chips, flags, b.Acted)
		}
	}
}
