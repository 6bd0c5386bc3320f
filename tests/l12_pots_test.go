package tests

import (
	"math/rand"
	"slices"
	"testing"

	"loop.example/g00910/impl"
)

// payments are what each seat has paid, and whether it has folded.
type payments struct {
	paid   []int64
	folded []bool
}

// paymentsOf has a mark for each seat: f if it has folded, and . if not.
func paymentsOf(marks string, paid ...int64) payments {
	p := payments{paid: paid}
	for _, mark := range marks {
		p.folded = append(p.folded, mark == 'f')
	}
	return p
}

// copyOfPayments shares no memory with the payments.
func copyOfPayments(p payments) payments {
	return payments{slices.Clone(p.paid), slices.Clone(p.folded)}
}

func potOf(amount int64, seats ...int64) impl.Pot { return impl.Pot{Amount: amount, Seats: seats} }

func samePots(a, b []impl.Pot) bool {
	return slices.EqualFunc(a, b, func(x, y impl.Pot) bool { return x.Amount == y.Amount && slices.Equal(x.Seats, y.Seats) })
}

// arePaymentsAs decides by the definition, with the numbers of the document.
func arePaymentsAs(p payments) bool {
	if len(p.paid) < 2 || len(p.paid) > 6 || len(p.folded) != len(p.paid) {
		return false
	}
	greatest := int64(0)
	for seat, chips := range p.paid {
		if chips < 0 || chips > 600000 {
			return false
		}
		if !p.folded[seat] {
			greatest = max(greatest, chips)
		}
	}
	return greatest > 0
}

// uncalledAs looks for a seat that has paid more than every other one.
func uncalledAs(p payments) (seat, uncalled int64) {
	for i, chips := range p.paid {
		others := slices.Delete(slices.Clone(p.paid), i, i+1)
		if most := slices.Max(others); chips > most {
			return int64(i), chips - most
		}
	}
	return 0, 0
}

// calledAs are the payments without what is uncalled: nobody has paid more of them than a second seat.
func calledAs(p payments) []int64 {
	seat, uncalled := uncalledAs(p)
	called := slices.Clone(p.paid)
	called[seat] -= uncalled
	return called
}

// potsAs forms the pots by the definition, level by level.
func potsAs(p payments) []impl.Pot {
	called := calledAs(p)
	var levels []int64
	for seat, chips := range called {
		if chips > 0 && !p.folded[seat] {
			levels = append(levels, chips)
		}
	}
	slices.Sort(levels)
	levels = slices.Compact(levels)
	var pots []impl.Pot
	before := int64(0)
	for i, level := range levels {
		pot := impl.Pot{}
		for seat, chips := range called {
			pot.Amount += min(chips, level) - min(chips, before)
			if i == len(levels)-1 {
				pot.Amount += max(chips, level) - level
			}
			if !p.folded[seat] && chips >= level {
				pot.Seats = append(pot.Seats, int64(seat))
			}
		}
		pots = append(pots, pot)
		before = level
	}
	return pots
}

// shareAs is what a seat can win: from each seat as much as it has paid itself, and if no seat that has
// not folded has paid more, all that there is.
func shareAs(p payments, seat int) int64 {
	called := calledAs(p)
	if p.folded[seat] || called[seat] == 0 {
		return 0
	}
	share, hasMost := int64(0), true
	for other, chips := range called {
		share += min(chips, called[seat])
		hasMost = hasMost && (p.folded[other] || chips <= called[seat])
	}
	if hasMost {
		return sumOf(called)
	}
	return share
}

// expectPots compares all functions with what they have to be for payments.
func expectPots(t *testing.T, p payments) {
	t.Helper()
	if !impl.ArePayments(p.paid, p.folded) {
		t.Fatal("ArePayments of", p, "is false")
	}
	wantSeat, wantChips := uncalledAs(p)
	if seat, chips, code := impl.UncalledOf(p.paid, p.folded); seat != wantSeat || chips != wantChips || code != impl.ErrNone {
		t.Fatal("UncalledOf of", p, "is", seat, chips, code, "and not", wantSeat, wantChips)
	}
	if got, code := impl.RefundOf(p.paid, p.folded); !slices.Equal(got, calledAs(p)) || code != impl.ErrNone {
		t.Fatal("RefundOf of", p, "is", got, code, "and not", calledAs(p))
	}
	want := potsAs(p)
	if got, code := impl.PotsOf(p.paid, p.folded); !samePots(got, want) || code != impl.ErrNone {
		t.Fatal("PotsOf of", p, "is", got, code, "and not", want)
	}
	if got, code := impl.CountPots(p.paid, p.folded); got != int64(len(want)) || code != impl.ErrNone {
		t.Fatal("CountPots of", p, "is", got, code, "and not", len(want))
	}
	main, mainCode := int64(0), int64(impl.ErrNotFound)
	if len(want) > 0 {
		main, mainCode = want[0].Amount, impl.ErrNone
	}
	if got, code := impl.MainPot(p.paid, p.folded); got != main || code != mainCode {
		t.Fatal("MainPot of", p, "is", got, code, "and not", main, mainCode)
	}
	for seat := range p.paid {
		if got, code := impl.ShareIn(p.paid, p.folded, int64(seat)); got != shareAs(p, seat) || code != impl.ErrNone {
			t.Fatal("ShareIn of", p, "and the seat", seat, "is", got, code, "and not", shareAs(p, seat))
		}
	}
	expectAllChips(t, p)
}

// expectAllChips checks the promise: the pots and the uncalled chips add up to all payments. It also checks
// that each pot has chips, and some of the seats of the one before it, but not all.
func expectAllChips(t *testing.T, p payments) {
	t.Helper()
	pots, _ := impl.PotsOf(p.paid, p.folded)
	_, sum, _ := impl.UncalledOf(p.paid, p.folded)
	var before []int64
	for i, pot := range pots {
		sum += pot.Amount
		isNew := func(seat int64) bool { return !slices.Contains(before, seat) }
		if pot.Amount <= 0 || len(pot.Seats) == 0 || !slices.IsSorted(pot.Seats) || len(slices.Compact(slices.Clone(pot.Seats))) != len(pot.Seats) {
			t.Fatal("PotsOf of", p, "is", pots)
		}
		if i > 0 && (len(pot.Seats) >= len(before) || slices.ContainsFunc(pot.Seats, isNew)) {
			t.Fatal("PotsOf of", p, "is", pots)
		}
		before = pot.Seats
	}
	if sum != sumOf(p.paid) {
		t.Fatal("the pots and the uncalled chips of", p, "are", pots, "with", sum, "chips in all")
	}
}

// smallPayments are all payments of 2 to 6 seats with small numbers.
func smallPayments() []payments {
	var all []payments
	for seats, numbers := range map[int]int{2: 7, 3: 6, 4: 5, 5: 4, 6: 3} {
		lists := [][]int64{nil}
		for range seats {
			var longer [][]int64
			for _, paid := range lists {
				for chips := range int64(numbers) {
					longer = append(longer, append(slices.Clone(paid), chips))
				}
			}
			lists = longer
		}
		for _, paid := range lists {
			for folds := range 1 << seats {
				p := payments{paid: paid}
				for seat := range seats {
					p.folded = append(p.folded, folds>>seat&1 == 1)
				}
				if arePaymentsAs(p) {
					all = append(all, p)
				}
			}
		}
	}
	return all
}

// randomPayments have numbers up to the greatest one. In half of them many are equal, and in the others
// few seats have folded.
func randomPayments() []payments {
	source := rand.New(rand.NewSource(12))
	var all []payments
	for len(all) < 20000 {
		greatest := []int64{1, 4, 30, 1000, 100000, 600000}[source.Intn(6)]
		p, oneIn := payments{paid: randomChips(source, 2+source.Intn(5), greatest)}, 3
		if len(all)%2 == 0 {
			oneIn = 10
			for seat := range p.paid {
				p.paid[seat] = source.Int63n(greatest + 1)
			}
		}
		for range p.paid {
			p.folded = append(p.folded, source.Intn(oneIn) == 0)
		}
		if arePaymentsAs(p) {
			all = append(all, p)
		}
	}
	return all
}

// knownPots are payments, the seat that gets uncalled chips back and their number, and the pots.
var knownPots = []struct {
	name     string
	p        payments
	seat     int64
	uncalled int64
	pots     []impl.Pot
}{
	{"two levels and a folded seat", paymentsOf("..f", 10, 5, 10), 0, 0, []impl.Pot{potOf(15, 0, 1), potOf(10, 0)}},
	{"uncalled chips of two seats", paymentsOf("..", 10, 4), 0, 6, []impl.Pot{potOf(8, 0, 1)}},
	{"uncalled chips of the other seat", paymentsOf("..", 4, 10), 1, 6, []impl.Pot{potOf(8, 0, 1)}},
	{"one uncalled chip", paymentsOf("...", 3, 5, 4), 1, 1, []impl.Pot{potOf(9, 0, 1, 2), potOf(2, 1, 2)}},
	{"nothing uncalled", paymentsOf("..", 7, 7), 0, 0, []impl.Pot{potOf(14, 0, 1)}},
	{"two have paid the most", paymentsOf("...", 2, 9, 9), 0, 0, []impl.Pot{potOf(6, 0, 1, 2), potOf(14, 1, 2)}},
	{"all have paid the most", paymentsOf("......", 3, 3, 3, 3, 3, 3), 0, 0, []impl.Pot{potOf(18, 0, 1, 2, 3, 4, 5)}},
	{"a folded seat has paid the most, too", paymentsOf(".f.", 9, 9, 2), 0, 0, []impl.Pot{potOf(6, 0, 2), potOf(14, 0)}},
	{"two folded seats have paid the most", paymentsOf("f.f", 9, 2, 9), 0, 0, []impl.Pot{potOf(20, 1)}},
	{"the seat that has paid the most has folded", paymentsOf("f..", 10, 4, 4), 0, 6, []impl.Pot{potOf(12, 1, 2)}},
	{"the last seat has paid the most and folded", paymentsOf("..f", 2, 4, 10), 2, 6, []impl.Pot{potOf(6, 0, 1), potOf(4, 1)}},
	{"the two that have paid the most have folded", paymentsOf("f.f", 10, 4, 7), 0, 3, []impl.Pot{potOf(18, 1)}},
	{"uncalled against a folded seat", paymentsOf(".f.", 10, 7, 3), 0, 3, []impl.Pot{potOf(9, 0, 2), potOf(8, 0)}},
	{"uncalled against a seat that has not folded", paymentsOf("..f", 10, 7, 3), 0, 3, []impl.Pot{potOf(17, 0, 1)}},
	{"uncalled against a folded seat and one that has not", paymentsOf("f..", 6, 6, 8), 2, 2, []impl.Pot{potOf(18, 1, 2)}},
	{"uncalled against folded seats alone", paymentsOf("ff.", 3, 2, 8), 2, 5, []impl.Pot{potOf(8, 2)}},
	{"a single seat that has paid", paymentsOf("..", 5, 0), 0, 5, nil},
	{"a single seat that has paid, the other one has folded", paymentsOf("f.", 0, 5), 1, 5, nil},
	{"a single seat of six that has paid", paymentsOf(".f.f..", 0, 0, 0, 0, 8, 0), 4, 8, nil},
	{"two seats that have paid, one has folded", paymentsOf("f...", 1, 0, 5, 0), 2, 4, []impl.Pot{potOf(2, 2)}},
	{"levels that grow", paymentsOf("......", 1, 2, 4, 7, 11, 16), 5, 5, []impl.Pot{potOf(6, 0, 1, 2, 3, 4, 5), potOf(5, 1, 2, 3, 4, 5), potOf(8, 2, 3, 4, 5), potOf(9, 3, 4, 5), potOf(8, 4, 5)}},
	{"levels that fall", paymentsOf("......", 11, 11, 7, 4, 2, 1), 0, 0, []impl.Pot{potOf(6, 0, 1, 2, 3, 4, 5), potOf(5, 0, 1, 2, 3, 4), potOf(8, 0, 1, 2, 3), potOf(9, 0, 1, 2), potOf(8, 0, 1)}},
	{"levels in no order", paymentsOf(".....", 4, 9, 2, 9, 6), 0, 0, []impl.Pot{potOf(10, 0, 1, 2, 3, 4), potOf(8, 0, 1, 3, 4), potOf(6, 1, 3, 4), potOf(6, 1, 3)}},
	{"equal levels", paymentsOf(".....", 3, 5, 3, 5, 5), 0, 0, []impl.Pot{potOf(15, 0, 1, 2, 3, 4), potOf(6, 1, 3, 4)}},
	{"a payment of 0 by the first seat", paymentsOf("...", 0, 4, 4), 0, 0, []impl.Pot{potOf(8, 1, 2)}},
	{"payments of 0 by seats between others", paymentsOf(".....", 4, 0, 6, 0, 6), 0, 0, []impl.Pot{potOf(12, 0, 2, 4), potOf(4, 2, 4)}},
	{"a payment of 0 by the last seat", paymentsOf("...", 4, 4, 0), 0, 0, []impl.Pot{potOf(8, 0, 1)}},
	{"a payment of 0 by a folded seat", paymentsOf("..f", 4, 4, 0), 0, 0, []impl.Pot{potOf(8, 0, 1)}},
	{"folded below the least level", paymentsOf("f..", 1, 4, 4), 0, 0, []impl.Pot{potOf(9, 1, 2)}},
	{"folded at the least level", paymentsOf("f...", 4, 4, 6, 6), 0, 0, []impl.Pot{potOf(16, 1, 2, 3), potOf(4, 2, 3)}},
	{"folded between two levels", paymentsOf(".f..", 2, 3, 5, 5), 0, 0, []impl.Pot{potOf(8, 0, 2, 3), potOf(7, 2, 3)}},
	{"folded at the greatest level", paymentsOf(".f..", 2, 5, 5, 5), 0, 0, []impl.Pot{potOf(8, 0, 2, 3), potOf(9, 2, 3)}},
	{"folded beyond the greatest level", paymentsOf("ff..", 9, 9, 4, 4), 0, 0, []impl.Pot{potOf(26, 2, 3)}},
	{"folded beyond the greatest of two levels", paymentsOf(".f.f", 2, 9, 5, 9), 0, 0, []impl.Pot{potOf(8, 0, 2), potOf(17, 2)}},
	{"folded beyond the greatest level by different numbers", paymentsOf("fff..", 9, 7, 6, 5, 2), 0, 2, []impl.Pot{potOf(10, 3, 4), potOf(17, 3)}},
	{"folded below, between and beyond", paymentsOf("f.f.ff", 1, 3, 4, 6, 8, 8), 0, 0, []impl.Pot{potOf(16, 1, 3), potOf(14, 3)}},
	{"the greatest payments", paymentsOf("......", 600000, 600000, 600000, 600000, 600000, 600000), 0, 0, []impl.Pot{potOf(3600000, 0, 1, 2, 3, 4, 5)}},
	{"the greatest payments, all but one folded", paymentsOf("fff.ff", 600000, 600000, 600000, 600000, 600000, 600000), 0, 0, []impl.Pot{potOf(3600000, 3)}},
	{"the greatest payments beyond a level of 1", paymentsOf("f.ffff", 600000, 1, 600000, 600000, 600000, 600000), 0, 0, []impl.Pot{potOf(3000001, 1)}},
	{"the greatest payment alone", paymentsOf("...", 0, 600000, 0), 1, 600000, nil},
	{"the greatest payment against one chip less", paymentsOf("..", 600000, 599999), 0, 1, []impl.Pot{potOf(1199998, 0, 1)}},
	{"the greatest payment against one chip", paymentsOf("..f", 1, 600000, 1), 1, 599999, []impl.Pot{potOf(3, 0, 1)}},
}

func TestKnownPots(t *testing.T) {
	for _, c := range knownPots {
		paid, folded := c.p.paid, c.p.folded
		if got, code := impl.PotsOf(paid, folded); !samePots(got, c.pots) || code != impl.ErrNone {
			t.Error("PotsOf with", c.name, "is", got, code, "and not", c.pots)
		}
		if seat, chips, code := impl.UncalledOf(paid, folded); seat != c.seat || chips != c.uncalled || code != impl.ErrNone {
			t.Error("UncalledOf with", c.name, "is", seat, chips, code)
		}
		called := slices.Clone(paid)
		called[c.seat] -= c.uncalled
		if got, code := impl.RefundOf(paid, folded); !slices.Equal(got, called) || code != impl.ErrNone {
			t.Error("RefundOf with", c.name, "is", got, code)
		}
		if got, code := impl.CountPots(paid, folded); got != int64(len(c.pots)) || code != impl.ErrNone {
			t.Error("CountPots with", c.name, "is", got, code)
		}
		expectPots(t, c.p)
	}
}

// A seat that has folded or is in no pot can win nothing, whatever it has paid.
func TestKnownShares(t *testing.T) {
	for _, c := range []struct {
		p    payments
		want []int64
	}{
		{paymentsOf("..f", 10, 5, 10), list(25, 15, 0)},
		{paymentsOf("..", 10, 4), list(8, 8)},
		{paymentsOf("...", 0, 4, 4), list(0, 8, 8)},
		{paymentsOf("f..", 10, 4, 0), list(0, 8, 0)},
		{paymentsOf("...", 0, 5, 0), list(0, 0, 0)},
		{paymentsOf("ff..", 9, 9, 4, 4), list(0, 0, 26, 26)},
		{paymentsOf(".f.f", 2, 9, 5, 9), list(8, 0, 25, 0)},
		{paymentsOf("......", 1, 2, 4, 7, 11, 16), list(6, 11, 19, 28, 36, 36)},
		{paymentsOf("f.ffff", 600000, 1, 600000, 600000, 600000, 600000), list(0, 3000001, 0, 0, 0, 0)},
	} {
		for seat, want := range c.want {
			if got, code := impl.ShareIn(c.p.paid, c.p.folded, int64(seat)); got != want || code != impl.ErrNone {
				t.Error("ShareIn of", c.p, "and the seat", seat, "is", got, code, "and not", want)
			}
		}
	}
}

func TestKnownMainPots(t *testing.T) {
	for _, c := range []struct {
		p    payments
		want int64
		code int64
	}{
		{paymentsOf("..f", 10, 5, 10), 15, impl.ErrNone},
		{paymentsOf("..", 1, 1), 2, impl.ErrNone},
		{paymentsOf("......", 16, 11, 7, 4, 2, 1), 6, impl.ErrNone},
		{paymentsOf("ff..", 9, 9, 4, 4), 26, impl.ErrNone},
		{paymentsOf("..", 1, 0), 0, impl.ErrNotFound},
		{paymentsOf(".f", 5, 0), 0, impl.ErrNotFound},
		{paymentsOf("...ff.", 0, 0, 600000, 0, 0, 0), 0, impl.ErrNotFound},
		// One folded chip is enough for a pot.
		{paymentsOf(".f", 5, 1), 2, impl.ErrNone},
	} {
		if got, code := impl.MainPot(c.p.paid, c.p.folded); got != c.want || code != c.code {
			t.Error("MainPot of", c.p, "is", got, code, "and not", c.want, c.code)
		}
	}
}

func TestSmallPayments(t *testing.T) {
	for _, p := range smallPayments() {
		expectPots(t, p)
	}
}

func TestRandomPayments(t *testing.T) {
	pots := [7]int{}
	for _, p := range randomPayments() {
		expectPots(t, p)
		count, _ := impl.CountPots(p.paid, p.folded)
		pots[count]++
	}
	for count := range 6 {
		if pots[count] < 50 {
			t.Error("only", pots[count], "payments have", count, "pots")
		}
	}
}

// What the seats have paid in a round, open or not, is in the pots and uncalled.
func TestPotsOfRounds(t *testing.T) {
	tried := 0
	for _, b := range slices.Concat(smallRounds(), randomRounds()) {
		paid, _ := impl.Contributions(b)
		p := payments{paid, b.Folded}
		if !arePaymentsAs(p) {
			continue
		}
		tried++
		expectPots(t, p)
	}
	if tried < 50000 {
		t.Error("only", tried, "rounds have payments")
	}
}

// A hand is played to its end, and its pots have all chips that the stacks do not have any more.
func TestPotsOfPlayedHands(t *testing.T) {
	source := rand.New(rand.NewSource(121))
	several := 0
	for _, table := range slices.Concat(largeTables(), largeTables(), baseTables()) {
		b, code := impl.FirstRound(table)
		for street := int64(1); code == impl.ErrNone; street++ {
			b = playStreet(t, source, b)
			b, code = nextOrSame(table, b, street)
		}
		paid, _ := impl.Contributions(b)
		expectPots(t, payments{paid, b.Folded})
		called, _ := impl.RefundOf(paid, b.Folded)
		chips, _ := impl.ChipsAt(table)
		if _, uncalled, _ := impl.UncalledOf(paid, b.Folded); sumOf(b.Stacks)+uncalled+sumOf(called) != chips {
			t.Fatalf("the chips of %+v are not those of %+v", b, table)
		}
		if count, _ := impl.CountPots(paid, b.Folded); count > 1 {
			several++
		}
	}
	if several < 100 {
		t.Error("only", several, "hands have several pots")
	}
}

// nextOrSame is the next round, or the same one with the error if there is none.
func nextOrSame(table impl.Table, b impl.Betting, street int64) (impl.Betting, int64) {
	next, code := impl.NextRound(table, b, street)
	if code != impl.ErrNone {
		return b, code
	}
	return next, code
}

// Each bound of payments is tried on both of its sides, alone.
func TestBoundsOfPayments(t *testing.T) {
	for _, c := range []struct {
		p    payments
		want bool
	}{
		{payments{}, false},
		{payments{[]int64{}, []bool{}}, false},
		{paymentsOf(".", 5), false},
		{paymentsOf("..", 5, 5), true},
		{paymentsOf("......", 5, 5, 5, 5, 5, 5), true},
		{paymentsOf(".......", 5, 5, 5, 5, 5, 5, 5), false},
		{paymentsOf("", 5, 5), false},
		{paymentsOf(".", 5, 5), false},
		{paymentsOf("...", 5, 5), false},
		{paymentsOf(".......", 5, 5, 5, 5, 5, 5), false},
		{paymentsOf("......", 5, 5, 5, 5, 5, 5, 5), false},
		{paymentsOf("..", 5), false},
		{paymentsOf(".."), false},
		{paymentsOf("..", 5, 0), true},
		{paymentsOf("..", 0, 1), true},
		{paymentsOf("..", 5, -1), false},
		{paymentsOf("..", -1, 5), false},
		{paymentsOf(".f", 5, -1), false},
		{paymentsOf("..", -1, -1), false},
		{paymentsOf("..", 5, 600000), true},
		{paymentsOf("..", 600000, 600000), true},
		{paymentsOf("..", 5, 600001), false},
		{paymentsOf("..", 600001, 5), false},
		{paymentsOf(".f", 5, 600001), false},
		{paymentsOf("f..", 600000, 1, 600000), true},
		// All seats have folded, or nobody that has not folded has paid.
		{paymentsOf("ff", 5, 5), false},
		{paymentsOf("f.", 5, 5), true},
		{paymentsOf(".f", 5, 5), true},
		{paymentsOf("ffffff", 5, 5, 5, 5, 5, 5), false},
		{paymentsOf("fffff.", 5, 5, 5, 5, 5, 5), true},
		{paymentsOf("..", 0, 0), false},
		{paymentsOf("f.", 5, 0), false},
		{paymentsOf("f.", 5, 1), true},
		{paymentsOf("f..", 5, 0, 0), false},
		{paymentsOf("f..", 5, 0, 1), true},
		{paymentsOf("ff.", 5, 5, 0), false},
		{paymentsOf("fff.ff", 1, 2, 3, 0, 5, 6), false},
	} {
		if got := impl.ArePayments(c.p.paid, c.p.folded); got != c.want || got != arePaymentsAs(c.p) {
			t.Error("ArePayments of", c.p, "is", got)
		}
	}
}

// basePayments are payments with each number of seats.
func basePayments() []payments {
	return []payments{paymentsOf("..", 5, 3), paymentsOf(".f.", 5, 9, 9), paymentsOf("...f", 0, 2, 7, 7), paymentsOf("f...f", 8, 6, 4, 2, 8), paymentsOf("..f.f.", 600000, 1, 600000, 5, 0, 30)}
}

// invalidPayments differ from payments in one number, in the length of one list, or in their folds.
func invalidPayments() []payments {
	all := []payments{{}, paymentsOf("..", 0, 0), paymentsOf("f.", 5, 0), paymentsOf("ff", 5, 5), paymentsOf("fff.ff", 1, 2, 3, 0, 5, 6)}
	for _, base := range basePayments() {
		for seat := range base.paid {
			for _, number := range append([]int64{-1, 600001, 1 << 20}, farNumbers...) {
				if p := copyOfPayments(base); number < 0 || number > 600000 {
					p.paid[seat] = number
					all = append(all, p)
				}
			}
		}
		for _, length := range []int{0, 1, 2, 3, 4, 5, 6, 7, 8, 13, 256, 258} {
			if length != len(base.paid) {
				all = append(all, payments{base.paid, make([]bool, length)}, payments{slices.Repeat([]int64{5}, length), base.folded})
			}
			if length < 2 || length > 6 {
				all = append(all, payments{slices.Repeat([]int64{5}, length), make([]bool, length)})
			}
		}
		all = append(all, payments{base.paid, slices.Repeat([]bool{true}, len(base.paid))}, payments{make([]int64, len(base.paid)), base.folded})
	}
	return all
}

func TestArePayments(t *testing.T) {
	for _, p := range basePayments() {
		expectPots(t, p)
		for seat := range p.paid {
			for _, number := range append([]int64{-2, -1, 0, 1, 2, 599999, 600000, 600001}, farNumbers...) {
				changed := copyOfPayments(p)
				changed.paid[seat] = number
				if got := impl.ArePayments(changed.paid, changed.folded); got != arePaymentsAs(changed) {
					t.Error("ArePayments of", changed, "is", got)
				}
			}
		}
	}
	for _, p := range invalidPayments() {
		if impl.ArePayments(p.paid, p.folded) || arePaymentsAs(p) {
			t.Error("ArePayments of", p, "is true")
		}
	}
}

// The error of what are no payments comes first, whatever the seat is, and although there are no pots.
func TestFunctionsOfInvalidPayments(t *testing.T) {
	for _, p := range invalidPayments() {
		seat, chips, one := impl.UncalledOf(p.paid, p.folded)
		pots, two := impl.PotsOf(p.paid, p.folded)
		count, three := impl.CountPots(p.paid, p.folded)
		called, four := impl.RefundOf(p.paid, p.folded)
		main, five := impl.MainPot(p.paid, p.folded)
		if !slices.Equal(list(one, two, three, four, five), list(1, 1, 1, 1, 1)) || seat != 0 || chips != 0 || len(pots) != 0 || count != 0 || len(called) != 0 || main != 0 {
			t.Fatal("the functions of", p, "return", seat, chips, pots, count, called, main, "and", one, two, three, four, five)
		}
		for _, seat := range append(list(0, 1, 5, -1, 2, 6, 7, int64(len(p.paid)), int64(len(p.folded))), farNumbers...) {
			if got, code := impl.ShareIn(p.paid, p.folded, seat); got != 0 || code != impl.ErrInvalid {
				t.Fatal("ShareIn of", p, "and the seat", seat, "is", got, code)
			}
		}
	}
}

func TestSharesOfNoSeats(t *testing.T) {
	for _, p := range append(basePayments(), paymentsOf("..", 5, 0), paymentsOf("f..", 10, 4, 0)) {
		seats := int64(len(p.paid))
		for _, seat := range append(list(-1, seats, seats+1, 2*seats, 7), farNumbers...) {
			if got, code := impl.ShareIn(p.paid, p.folded, seat); got != 0 || code != impl.ErrRange {
				t.Error("ShareIn of", p, "and the seat", seat, "is", got, code)
			}
		}
		for _, seat := range list(0, seats-1) {
			if got, code := impl.ShareIn(p.paid, p.folded, seat); got != shareAs(p, int(seat)) || code != impl.ErrNone {
				t.Error("ShareIn of", p, "and the seat", seat, "is", got, code)
			}
		}
	}
}

// callPots calls all functions of the chapter.
func callPots(p payments) {
	impl.ArePayments(p.paid, p.folded)
	impl.UncalledOf(p.paid, p.folded)
	impl.PotsOf(p.paid, p.folded)
	impl.CountPots(p.paid, p.folded)
	impl.RefundOf(p.paid, p.folded)
	impl.MainPot(p.paid, p.folded)
	for seat := int64(-1); seat <= int64(len(p.paid)); seat++ {
		impl.ShareIn(p.paid, p.folded, seat)
	}
}

func TestPaymentArgumentsStay(t *testing.T) {
	all := slices.Concat(basePayments(), invalidPayments(), randomPayments()[:500])
	for _, c := range knownPots {
		all = append(all, c.p)
	}
	for _, p := range all {
		kept := payments{guarded(p.paid), guardedBools(p.folded)}
		callPots(kept)
		if !sameAsGuarded(kept.paid, p.paid) || !sameAsGuardedBools(kept.folded, p.folded) {
			t.Fatal(p, "have become", kept)
		}
	}
}

// Overwriting the payments or the Seats of one pot changes nothing else.
func TestPotResultsAreNew(t *testing.T) {
	all := slices.Concat(basePayments(), randomPayments()[:500])
	for _, c := range knownPots {
		all = append(all, c.p)
	}
	for _, p := range all {
		kept := payments{guarded(p.paid), guardedBools(p.folded)}
		called := func() []int64 { got, _ := impl.RefundOf(kept.paid, kept.folded); return got }
		if !givesNewLists(called) || !sameAsGuarded(kept.paid, p.paid) {
			t.Fatal("RefundOf of", p, "shares memory")
		}
		seats := func() [][]int64 {
			var lists [][]int64
			pots, _ := impl.PotsOf(kept.paid, kept.folded)
			for _, pot := range pots {
				lists = append(lists, pot.Seats)
			}
			return lists
		}
		if !givesSeparateLists(seats) || !sameAsGuarded(kept.paid, p.paid) || !sameAsGuardedBools(kept.folded, p.folded) {
			t.Fatal("PotsOf of", p, "shares memory")
		}
		amounts := func() []impl.Pot { got, _ := impl.PotsOf(kept.paid, kept.folded); return got }
		if first := amounts(); len(first) > 0 {
			first[0] = potOf(-1)
			if !samePots(amounts(), potsAs(p)) {
				t.Fatal("PotsOf of", p, "keeps its pots")
			}
		}
	}
}
