package tests

import (
	"math"
	"math/big"
	"math/rand"
	"slices"
	"strings"
	"testing"

	"loop.example/g00910/impl"
)

// roundOf returns a round without raises and without a limit. The marks have a character for each seat:
// f if it has folded, a if it has acted, b for both, and . for neither.
func roundOf(stacks, bets, paid []int64, marks string, turn, unit int64) impl.Betting {
	b := impl.Betting{Stacks: stacks, Bets: bets, Paid: paid, Turn: turn, Unit: unit}
	for _, mark := range marks {
		b.Folded = append(b.Folded, mark == 'f' || mark == 'b')
		b.Acted = append(b.Acted, mark == 'a' || mark == 'b')
	}
	return b
}

func limited(b impl.Betting, limit, raises int64) impl.Betting {
	b.Limit, b.Raises = limit, raises
	return b
}

func act(kind int64) impl.Action { return impl.Action{Kind: kind} }

func raiseTo(amount int64) impl.Action { return impl.Action{Kind: impl.ActRaise, Amount: amount} }

// copyOfRound shares no memory with the round.
func copyOfRound(b impl.Betting) impl.Betting {
	b.Stacks, b.Bets, b.Paid = slices.Clone(b.Stacks), slices.Clone(b.Bets), slices.Clone(b.Paid)
	b.Folded, b.Acted = slices.Clone(b.Folded), slices.Clone(b.Acted)
	return b
}

func sameRound(a, b impl.Betting) bool {
	return slices.Equal(a.Stacks, b.Stacks) && slices.Equal(a.Bets, b.Bets) && slices.Equal(a.Paid, b.Paid) &&
		slices.Equal(a.Folded, b.Folded) && slices.Equal(a.Acted, b.Acted) &&
		a.Turn == b.Turn && a.Unit == b.Unit && a.Raises == b.Raises && a.Limit == b.Limit
}

func isZeroRound(b impl.Betting) bool { return sameRound(b, impl.Betting{}) }

// isBettingAs decides by the definition, with the numbers of the document and with sums of any size.
func isBettingAs(b impl.Betting) bool {
	seats := len(b.Stacks)
	if seats < 2 || seats > 6 || len(b.Bets) != seats || len(b.Paid) != seats || len(b.Folded) != seats || len(b.Acted) != seats {
		return false
	}
	sum := new(big.Int)
	for _, chips := range slices.Concat(b.Stacks, b.Bets, b.Paid) {
		if chips < 0 {
			return false
		}
		sum.Add(sum, big.NewInt(chips))
	}
	if sum.Cmp(big.NewInt(600000)) > 0 || !slices.Contains(b.Folded, false) {
		return false
	}
	return b.Turn >= 0 && b.Turn < int64(seats) && b.Unit >= 1 && b.Unit <= 100000 &&
		b.Raises >= 0 && b.Raises <= 4 && b.Limit >= 0 && b.Limit <= 2
}

// actorsIn are the seats that have chips and have not folded.
func actorsIn(b impl.Betting) []int64 {
	var seats []int64
	for seat, stack := range b.Stacks {
		if stack != 0 && !b.Folded[seat] {
			seats = append(seats, int64(seat))
		}
	}
	return seats
}

// hasToActAs decides by the definition, for a round that is valid but for its Unit.
func hasToActAs(b impl.Betting, seat int64) bool {
	actors := actorsIn(b)
	if !slices.Contains(actors, seat) {
		return false
	}
	for _, bet := range b.Bets {
		if bet > b.Bets[seat] {
			return true
		}
	}
	return len(actors) > 1 && !b.Acted[seat]
}

func isOpenAs(b impl.Betting) bool { return isBettingAs(b) && hasToActAs(b, b.Turn) }

// mayRaiseAs reports whether the rules allow a raise to an amount or to more in an open round, whatever
// the least amount is.
func mayRaiseAs(b impl.Betting, amount int64) bool {
	highest, own := slices.Max(b.Bets), b.Bets[b.Turn]
	if b.Acted[b.Turn] || len(actorsIn(b)) < 2 || amount <= highest || amount > own+b.Stacks[b.Turn] {
		return false
	}
	size := amount - highest
	potOfCall := sumOf(b.Bets) + sumOf(b.Paid) + highest - own
	switch b.Limit {
	case 1:
		return size <= potOfCall
	case 2:
		return size <= b.Unit && b.Raises != 4
	}
	return true
}

// isLegalAs decides by the definition. A raise of less than Unit must be one to the greatest amount.
func isLegalAs(b impl.Betting, a impl.Action) bool {
	if !isOpenAs(b) {
		return false
	}
	highest := slices.Max(b.Bets)
	switch a.Kind {
	case 0:
		return a.Amount == 0
	case 1:
		return a.Amount == 0 && b.Bets[b.Turn] == highest
	case 2:
		return a.Amount == 0 && b.Bets[b.Turn] < highest
	case 3:
		return mayRaiseAs(b, a.Amount) && (a.Amount >= highest+b.Unit || !mayRaiseAs(b, a.Amount+1))
	}
	return false
}

// appliedAs returns the round behind a legal action, put together anew from what its seats have then.
func appliedAs(b impl.Betting, a impl.Action) impl.Betting {
	highest, own, stack := slices.Max(b.Bets), b.Bets[b.Turn], b.Stacks[b.Turn]
	want := impl.Betting{Paid: b.Paid, Turn: b.Turn, Unit: b.Unit, Raises: b.Raises, Limit: b.Limit}
	bet, isFull := own, false
	switch a.Kind {
	case 2:
		if bet = highest; highest > own+stack {
			bet = own + stack
		}
	case 3:
		bet = a.Amount
		want.Raises = []int64{1, 2, 3, 4, 4}[b.Raises]
		if isFull = bet-highest >= b.Unit; isFull {
			want.Unit = bet - highest
		}
	}
	for seat := range b.Stacks {
		isTurn := int64(seat) == b.Turn
		stackThen, betThen := b.Stacks[seat], b.Bets[seat]
		if isTurn {
			stackThen, betThen = own+stack-bet, bet
		}
		want.Stacks = append(want.Stacks, stackThen)
		want.Bets = append(want.Bets, betThen)
		want.Folded = append(want.Folded, b.Folded[seat] || isTurn && a.Kind == 0)
		want.Acted = append(want.Acted, isTurn || b.Acted[seat] && !isFull)
	}
	seats := seatsAs(int64(len(b.Stacks)), b.Turn)
	for _, seat := range append(seats[1:], seats[0]) {
		if hasToActAs(want, seat) {
			want.Turn = seat
			break
		}
	}
	return want
}

// smallRounds are all rounds of two seats with some small numbers.
func smallRounds() []impl.Betting {
	numbers := func(number int64, of ...int64) []int64 {
		count := int64(len(of))
		return []int64{of[number%count], of[number/count]}
	}
	states := [][]int64{{0, 0}, {0, 4}, {1, 0}, {2, 0}, {2, 3}, {2, 4}}
	var rounds []impl.Betting
	for stacks := range int64(16) {
		for bets := range int64(9) {
			for _, marks := range strings.Fields(".. .a a. aa .f .b af ab f. fa b. ba") {
				for rest := range int64(8) {
					paid := []int64{0, rest % 2 * 2}
					b := roundOf(numbers(stacks, 0, 1, 2, 5), numbers(bets, 0, 1, 3), paid, marks, rest/2%2, rest/4+1)
					for _, state := range states {
						rounds = append(rounds, copyOfRound(limited(b, state[0], state[1])))
					}
				}
			}
		}
	}
	return rounds
}

// randomChips are numbers up to a greatest one, of which many are equal to it, to others or 0.
func randomChips(source *rand.Rand, seats int, greatest int64) []int64 {
	list := make([]int64, seats)
	for seat := range list {
		list[seat] = []int64{0, source.Int63n(greatest + 1), greatest, list[source.Intn(seat+1)]}[source.Intn(4)]
	}
	return list
}

// randomRounds are valid rounds of all sizes.
func randomRounds() []impl.Betting {
	source := rand.New(rand.NewSource(10))
	var rounds []impl.Betting
	for len(rounds) < 20000 {
		seats := 2 + source.Intn(5)
		greatest := []int64{2, 5, 20, 1000, 30000, 100000, 200000}[source.Intn(7)]
		b := roundOf(randomChips(source, seats, greatest), randomChips(source, seats, greatest), randomChips(source, seats, greatest/2), "", 0, 0)
		if source.Intn(3) == 0 {
			b.Paid = make([]int64, seats)
		}
		for range seats {
			b.Folded = append(b.Folded, source.Intn(4) == 0)
			b.Acted = append(b.Acted, source.Intn(2) == 0)
		}
		b.Turn = source.Int63n(int64(seats))
		b.Unit = 1 + source.Int63n(greatest)
		b = limited(b, source.Int63n(3), source.Int63n(5))
		if isBettingAs(b) {
			rounds = append(rounds, b)
		}
	}
	return rounds
}

// firstRoundAs is the round with which a hand begins, of what paidAs pays.
func firstRoundAs(table impl.Table) impl.Betting {
	antes, blinds := paidAs(table)
	b := impl.Betting{Bets: blinds, Paid: antes, Unit: table.Big, Limit: table.Limit, Turn: rowOf(table).first}
	for seat, stack := range table.Stacks {
		b.Stacks = append(b.Stacks, stack-antes[seat]-blinds[seat])
		b.Folded, b.Acted = append(b.Folded, false), append(b.Acted, false)
	}
	return turnFrom(b, b.Turn)
}

// turnFrom gives the turn to the first seat that has to act, from a seat on.
func turnFrom(b impl.Betting, first int64) impl.Betting {
	b.Turn = first
	for _, seat := range seatsAs(int64(len(b.Stacks)), first) {
		if hasToActAs(b, seat) {
			b.Turn = seat
			break
		}
	}
	return b
}

// laterRoundAs is the round that follows one that is closed.
func laterRoundAs(b impl.Betting, first int64) impl.Betting {
	next := copyOfRound(b)
	for seat, bet := range b.Bets {
		next.Paid[seat] += bet
	}
	clear(next.Bets)
	clear(next.Acted)
	next.Unit, next.Raises = 2, 0
	return turnFrom(next, first)
}

// someRounds are rounds of all kinds, some of them open.
func someRounds() []impl.Betting {
	var rounds []impl.Betting
	for _, table := range baseTables() {
		rounds = append(rounds, firstRoundAs(table), laterRoundAs(firstRoundAs(table), table.Button))
	}
	for i, b := range randomRounds() {
		if i%40 == 0 {
			rounds = append(rounds, b)
		}
	}
	return rounds
}

// actionsFor are actions of all kinds and some that are none, with the amounts at which raises begin
// and end, one less and one more.
func actionsFor(b impl.Betting) []impl.Action {
	highest := slices.Max(b.Bets)
	allIn := b.Bets[b.Turn] + b.Stacks[b.Turn]
	inPot := highest + sumOf(b.Bets) + sumOf(b.Paid) + highest - b.Bets[b.Turn]
	amounts := []int64{0, 1, (highest + b.Unit + allIn) / 2}
	for _, amount := range []int64{highest, highest + b.Unit, allIn, inPot} {
		amounts = append(amounts, amount-1, amount, amount+1)
	}
	actions := []impl.Action{{Kind: -1}, {Kind: 4}, {Kind: 0, Amount: 1}, {Kind: 0, Amount: -1}, {Kind: 1, Amount: 1},
		{Kind: 1, Amount: -1}, {Kind: 2, Amount: 1}, {Kind: 2, Amount: highest}, {Kind: 2, Amount: highest - b.Bets[b.Turn]}, {}, {Kind: 1}, {Kind: 2}}
	slices.Sort(amounts)
	for _, amount := range slices.Compact(amounts) {
		actions = append(actions, raiseTo(amount))
	}
	return actions
}

// expectAction compares IsLegal and ApplyAction with what they have to be for a valid round.
func expectAction(t *testing.T, b impl.Betting, a impl.Action) {
	t.Helper()
	want, wantCode, isLegal := impl.Betting{}, int64(impl.ErrNone), isLegalAs(b, a)
	switch {
	case isLegal:
		want = appliedAs(b, a)
	case isOpenAs(b):
		wantCode = impl.ErrRange
	default:
		wantCode = impl.ErrState
	}
	if got := impl.IsLegal(b, a); got != isLegal {
		t.Fatalf("IsLegal of %+v, %+v is %v", b, a, got)
	}
	if got, code := impl.ApplyAction(b, a); !sameRound(got, want) || code != wantCode {
		t.Fatalf("ApplyAction of %+v, %+v is %+v, %v and not %+v, %v", b, a, got, code, want, wantCode)
	}
}

// expectChoices compares ChoicesIn with what it has to be for a valid round.
func expectChoices(t *testing.T, b impl.Betting) {
	t.Helper()
	c, code := impl.ChoicesIn(b)
	if !isOpenAs(b) {
		if c != (impl.Choices{}) || code != impl.ErrState {
			t.Fatalf("ChoicesIn of %+v is %+v, %v", b, c, code)
		}
		return
	}
	highest, own, stack := slices.Max(b.Bets), b.Bets[b.Turn], b.Stacks[b.Turn]
	isRight := code == impl.ErrNone && c.Check == (own == highest) && c.Call >= 0 && c.Check == (c.Call == 0) &&
		(own+c.Call == highest || own+c.Call < highest && c.Call == stack)
	if mayRaiseAs(b, highest+1) {
		// Just the amounts from Least to Most are legal.
		isRight = isRight && c.Least <= c.Most && mayRaiseAs(b, c.Most) && !mayRaiseAs(b, c.Most+1)
		for amount, want := range map[int64]bool{c.Least - 1: false, c.Least: true, (c.Least + c.Most) / 2: true, c.Most: true, c.Most + 1: false} {
			isRight = isRight && isLegalAs(b, raiseTo(amount)) == want
		}
	} else {
		isRight = isRight && c.Least == 0 && c.Most == 0
	}
	if !isRight {
		t.Fatalf("ChoicesIn of %+v is %+v, %v", b, c, code)
	}
}

// expectSums compares the functions that need no open round with what they have to be for a valid one.
func expectSums(t *testing.T, b impl.Betting) {
	t.Helper()
	pot := sumOf(b.Bets) + sumOf(b.Paid)
	var live []int64
	for seat, folded := range b.Folded {
		if !folded {
			live = append(live, int64(seat))
		}
	}
	if got, code := impl.PotIn(b); got != pot || code != impl.ErrNone {
		t.Fatalf("PotIn of %+v is %v, %v", b, got, code)
	}
	if got, code := impl.ChipsIn(b); got != pot+sumOf(b.Stacks) || code != impl.ErrNone {
		t.Fatalf("ChipsIn of %+v is %v, %v", b, got, code)
	}
	if got, code := impl.LiveSeats(b); !slices.Equal(got, live) || code != impl.ErrNone {
		t.Fatalf("LiveSeats of %+v is %v, %v", b, got, code)
	}
	if !impl.IsBetting(b) || impl.IsOpen(b) != isOpenAs(b) {
		t.Fatalf("IsBetting and IsOpen of %+v are %v, %v", b, impl.IsBetting(b), impl.IsOpen(b))
	}
}

func TestActionConstants(t *testing.T) {
	if impl.ActFold != 0 || impl.ActCheck != 1 || impl.ActCall != 2 || impl.ActRaise != 3 || impl.MaxRaises != 4 {
		t.Error("the constants are", int64(impl.ActFold), int64(impl.ActCheck), int64(impl.ActCall), int64(impl.ActRaise), int64(impl.MaxRaises))
	}
}

// roundBounds are changes of one number or list of a valid round, and whether it stays valid.
var roundBounds = []struct {
	name   string
	change func(b *impl.Betting)
	want   bool
}{
	{"nothing", func(b *impl.Betting) {}, true},
	{"no chips at all", func(b *impl.Betting) { clear(b.Stacks); clear(b.Bets); clear(b.Paid) }, true},
	{"a stack of 0", func(b *impl.Betting) { b.Stacks[1] = 0 }, true},
	{"a stack of -1", func(b *impl.Betting) { b.Stacks[1] = -1 }, false},
	{"the first stack of -1", func(b *impl.Betting) { b.Stacks[0] = -1 }, false},
	{"a bet of 0", func(b *impl.Betting) { b.Bets[1] = 0 }, true},
	{"a bet of -1", func(b *impl.Betting) { b.Bets[1] = -1 }, false},
	{"the first bet of -1", func(b *impl.Betting) { b.Bets[0] = -1 }, false},
	{"a payment of 0", func(b *impl.Betting) { b.Paid[1] = 0 }, true},
	{"a payment of -1", func(b *impl.Betting) { b.Paid[1] = -1 }, false},
	{"the first payment of -1", func(b *impl.Betting) { b.Paid[0] = -1 }, false},
	{"a sum of 600000, by a stack", func(b *impl.Betting) { b.Stacks[0] = 599982 }, true},
	{"a sum of 600001, by a stack", func(b *impl.Betting) { b.Stacks[0] = 599983 }, false},
	{"a sum of 600000, by a bet", func(b *impl.Betting) { b.Bets[1] = 599975 }, true},
	{"a sum of 600001, by a bet", func(b *impl.Betting) { b.Bets[1] = 599976 }, false},
	{"a sum of 600000, by a payment", func(b *impl.Betting) { b.Paid[0] = 599976 }, true},
	{"a sum of 600001, by a payment", func(b *impl.Betting) { b.Paid[0] = 599977 }, false},
	{"one stack with all chips", func(b *impl.Betting) { b.Stacks = []int64{0, 600000}; clear(b.Bets); clear(b.Paid) }, true},
	{"one stack with too many chips", func(b *impl.Betting) { b.Stacks = []int64{0, 600001}; clear(b.Bets); clear(b.Paid) }, false},
	{"a sum of 2^64", func(b *impl.Betting) { b.Stacks = []int64{1 << 62, 1 << 62}; b.Bets = b.Stacks; clear(b.Paid) }, false},
	{"a sum of 2^64 - 1", func(b *impl.Betting) {
		b.Stacks, b.Bets, b.Paid = []int64{math.MaxInt64, 0}, []int64{0, math.MaxInt64}, []int64{0, 1}
	}, false},
	{"stacks of 2^64", func(b *impl.Betting) {
		*b = roundOf([]int64{math.MaxInt64, math.MaxInt64, 2}, []int64{0, 0, 0}, []int64{0, 0, 0}, "...", 0, 2)
	}, false},
	{"one folded", func(b *impl.Betting) { b.Folded[0] = true }, true},
	{"the other one folded", func(b *impl.Betting) { b.Folded[1] = true }, true},
	{"all folded", func(b *impl.Betting) { b.Folded[0], b.Folded[1] = true, true }, false},
	{"all acted", func(b *impl.Betting) { b.Acted[0], b.Acted[1] = true, true }, true},
	{"a turn of -1", func(b *impl.Betting) { b.Turn = -1 }, false},
	{"a turn of 0", func(b *impl.Betting) { b.Turn = 0 }, true},
	{"a turn of the number of seats", func(b *impl.Betting) { b.Turn = 2 }, false},
	{"a unit of 0", func(b *impl.Betting) { b.Unit = 0 }, false},
	{"a unit of 1", func(b *impl.Betting) { b.Unit = 1 }, true},
	{"a unit of MaxStack", func(b *impl.Betting) { b.Unit = 100000 }, true},
	{"a unit of one more", func(b *impl.Betting) { b.Unit = 100001 }, false},
	{"raises of -1", func(b *impl.Betting) { b.Raises = -1 }, false},
	{"raises of MaxRaises", func(b *impl.Betting) { b.Raises = 4 }, true},
	{"raises of one more", func(b *impl.Betting) { b.Raises = 5 }, false},
	{"a limit of -1", func(b *impl.Betting) { b.Limit = -1 }, false},
	{"a limit of 1", func(b *impl.Betting) { b.Limit = 1 }, true},
	{"a limit of 2", func(b *impl.Betting) { b.Limit = 2 }, true},
	{"a limit of 3", func(b *impl.Betting) { b.Limit = 3 }, false},
}

// Each bound of a round is tried on both of its sides, alone.
func TestBoundsOfRounds(t *testing.T) {
	two := roundOf([]int64{9, 8}, []int64{1, 2}, []int64{3, 4}, "..", 1, 2)
	for _, c := range roundBounds {
		b := copyOfRound(two)
		c.change(&b)
		if got := impl.IsBetting(b); got != c.want || isBettingAs(b) != c.want {
			t.Error("IsBetting with", c.name, "is", got)
		}
	}
}

// resized returns the round with so many seats, all of them like its first one.
func resized(b impl.Betting, seats int) impl.Betting {
	if len(b.Stacks) == 0 {
		return b
	}
	b.Stacks, b.Bets, b.Paid = slices.Repeat(b.Stacks[:1], seats), slices.Repeat(b.Bets[:1], seats), slices.Repeat(b.Paid[:1], seats)
	b.Folded, b.Acted = make([]bool, seats), slices.Repeat(b.Acted[:1], seats)
	return b
}

// withLengths returns the rounds in which one of the lists has another number of elements.
func withLengths(b impl.Betting) []impl.Betting {
	var rounds []impl.Betting
	for length := range 14 {
		for number := range 5 {
			c := copyOfRound(b)
			switch number {
			case 0:
				c.Stacks = make([]int64, length)
			case 1:
				c.Bets = make([]int64, length)
			case 2:
				c.Paid = make([]int64, length)
			case 3:
				c.Folded = make([]bool, length)
			case 4:
				c.Acted = make([]bool, length)
			}
			rounds = append(rounds, c)
		}
	}
	return rounds
}

// fieldsOfRound are the numbers of a round.
func fieldsOfRound(b *impl.Betting) []*int64 {
	fields := []*int64{&b.Turn, &b.Unit, &b.Raises, &b.Limit}
	for seat := range b.Stacks {
		fields = append(fields, &b.Stacks[seat], &b.Bets[seat], &b.Paid[seat])
	}
	return fields
}

// changedRounds differ from valid rounds in one number, one list or in their number of seats; some of
// them are valid.
func changedRounds() []impl.Betting {
	numbers := append([]int64{-1, 0, 1, 2, 3, 4, 5, 6, 7, 99999, 100000, 100001, 599999, 600000, 600001}, farNumbers...)
	rounds := []impl.Betting{{}, {Stacks: []int64{}, Unit: 1}, {Unit: 1}, {Folded: []bool{false}, Unit: 1}}
	for _, table := range baseTables() {
		base := firstRoundAs(table)
		for number := range fieldsOfRound(&base) {
			for _, n := range numbers {
				b := copyOfRound(base)
				*fieldsOfRound(&b)[number] = n
				rounds = append(rounds, b)
			}
		}
		rounds = append(rounds, withLengths(base)...)
		for seats := range 14 {
			b := resized(base, seats)
			b.Stacks = slices.Repeat([]int64{9}, seats)
			rounds = append(rounds, b)
			b.Turn = int64(seats) - 1
			rounds = append(rounds, b)
		}
		for folds := range 1 << len(base.Folded) {
			b := copyOfRound(base)
			for seat := range b.Folded {
				b.Folded[seat] = folds>>seat&1 == 1
			}
			rounds = append(rounds, b)
		}
	}
	return rounds
}

func invalidRounds() []impl.Betting {
	return slices.DeleteFunc(changedRounds(), isBettingAs)
}

func TestIsBetting(t *testing.T) {
	valid := 0
	for _, b := range changedRounds() {
		if got := impl.IsBetting(b); got != isBettingAs(b) {
			t.Errorf("IsBetting of %+v is %v", b, got)
		} else if got {
			valid++
			expectSums(t, b)
			expectChoices(t, b)
		}
	}
	if valid < 1000 {
		t.Error("only", valid, "changed rounds are valid")
	}
}

// Each seat has folded, has nothing left, has acted or has not, in all ways for up to six seats and for
// every turn.
func TestSeatsThatHaveToAct(t *testing.T) {
	for seats := 2; seats <= 6; seats++ {
		none := make([]int64, seats)
		for state := range 1 << (2 * seats) {
			marks, stacks := "", slices.Clone(none)
			for seat := range stacks {
				digit := state >> (2 * seat) & 3
				marks += "f.a."[digit : digit+1]
				stacks[seat] = []int64{1, 0, 1, 1}[digit]
			}
			for turn := range int64(seats) {
				for _, bets := range [][]int64{none, []int64{1, 2, 3, 2, 1, 3}[:seats]} {
					b := roundOf(stacks, bets, none, marks, turn, 1)
					if isBettingAs(b) {
						expectSums(t, b)
						expectChoices(t, b)
						expectAction(t, b, act(impl.ActFold))
						expectAction(t, b, act(impl.ActCheck))
					}
				}
			}
		}
	}
}

// list is short for a list of numbers.
func list(numbers ...int64) []int64 { return numbers }

// knownChoices are rounds with the choices that they have to have; those that are not open have none.
var knownChoices = []struct {
	name   string
	b      impl.Betting
	isOpen bool
	want   impl.Choices
}{
	{"a call or a raise", roundOf(list(9, 8), list(1, 2), list(0, 0), "..", 0, 2), true, impl.Choices{Call: 1, Least: 4, Most: 10}},
	{"a check or a raise", roundOf(list(9, 8), list(2, 2), list(0, 0), "a.", 1, 2), true, impl.Choices{Check: true, Least: 4, Most: 10}},
	{"a first bet", roundOf(list(9, 8, 7), list(0, 0, 0), list(4, 4, 4), "...", 1, 2), true, impl.Choices{Check: true, Least: 2, Most: 8}},
	{"a bet of a folded seat is to match", roundOf(list(9, 8, 7), list(5, 1, 0), list(0, 0, 0), "b..", 1, 2), true, impl.Choices{Call: 4, Least: 7, Most: 9}},
	{"one chip more than a call", roundOf(list(5, 8), list(1, 5), list(0, 0), "..", 0, 2), true, impl.Choices{Call: 4, Least: 6, Most: 6}},
	{"one chip less than a full raise", roundOf(list(5, 8), list(1, 3), list(0, 0), "..", 0, 4), true, impl.Choices{Call: 2, Least: 6, Most: 6}},
	{"just a full raise", roundOf(list(6, 8), list(1, 3), list(0, 0), "..", 0, 4), true, impl.Choices{Call: 2, Least: 7, Most: 7}},
	{"one chip more than a full raise", roundOf(list(7, 8), list(1, 3), list(0, 0), "..", 0, 4), true, impl.Choices{Call: 2, Least: 7, Most: 8}},
	{"just a call", roundOf(list(4, 8), list(1, 5), list(0, 0), "..", 0, 2), true, impl.Choices{Call: 4}},
	{"a call for less", roundOf(list(3, 8), list(1, 5), list(0, 0), "..", 0, 2), true, impl.Choices{Call: 3}},
	{"a call for one chip", roundOf(list(1, 8), list(0, 5), list(0, 0), "..", 0, 2), true, impl.Choices{Call: 1}},
	{"acted before a raise that is not full", roundOf(list(9, 0), list(5, 6), list(0, 0), "aa", 0, 4), true, impl.Choices{Call: 1}},
	{"acted, and another can act", roundOf(list(9, 0, 9), list(5, 6, 5), list(0, 0, 0), "aaa", 0, 4), true, impl.Choices{Call: 1}},
	{"the only one that can act", roundOf(list(9, 0, 9), list(5, 6, 0), list(0, 0, 0), "..f", 0, 2), true, impl.Choices{Call: 1}},
	{"the only one left, with less than a folded one", roundOf(list(9, 9), list(1, 2), list(0, 0), ".f", 0, 2), true, impl.Choices{Call: 1}},
	{"the only one that can act, matched", roundOf(list(9, 0, 9), list(6, 6, 0), list(0, 0, 0), "..f", 0, 2), false, impl.Choices{}},
	{"the only one left, matched", roundOf(list(9, 9), list(2, 1), list(0, 0), ".f", 0, 2), false, impl.Choices{}},
	{"matched and acted", roundOf(list(9, 9), list(2, 2), list(0, 0), "a.", 0, 2), false, impl.Choices{}},
	{"folded", roundOf(list(9, 9, 9), list(1, 2, 0), list(0, 0, 0), "f..", 0, 2), false, impl.Choices{}},
	{"nothing left", roundOf(list(0, 9, 9), list(1, 2, 0), list(0, 0, 0), "...", 0, 2), false, impl.Choices{}},
	{"all acted", roundOf(list(9, 9, 9), list(2, 2, 2), list(0, 0, 0), "aaa", 1, 2), false, impl.Choices{}},
	{"six seats", roundOf(list(90, 90, 90, 90, 90, 90), list(0, 0, 0, 10, 5, 10), list(1, 1, 1, 1, 1, 1), "fffa.a", 4, 5), true, impl.Choices{Call: 5, Least: 15, Most: 95}},
	{"raises without a limit", limited(roundOf(list(9, 9), list(1, 2), list(0, 0), "..", 0, 2), impl.LimitNone, 4), true, impl.Choices{Call: 1, Least: 4, Most: 10}},
	{"raises with the pot", limited(roundOf(list(99, 99), list(1, 2), list(0, 0), "..", 0, 2), impl.LimitPot, 4), true, impl.Choices{Call: 1, Least: 4, Most: 6}},
	{"the pot", limited(roundOf(list(99, 99, 99), list(0, 1, 2), list(0, 0, 0), "...", 0, 2), impl.LimitPot, 0), true, impl.Choices{Call: 2, Least: 4, Most: 7}},
	{"the pot with payments", limited(roundOf(list(99, 99, 99), list(0, 1, 2), list(1, 1, 1), "...", 0, 2), impl.LimitPot, 0), true, impl.Choices{Call: 2, Least: 4, Most: 10}},
	{"the pot with bets and payments of folded seats", limited(roundOf(list(99, 99, 99), list(0, 1, 2), list(1, 9, 1), ".f.", 0, 2), impl.LimitPot, 0), true, impl.Choices{Call: 2, Least: 4, Most: 18}},
	{"just the pot left", limited(roundOf(list(7, 99, 99), list(0, 1, 2), list(0, 0, 0), "...", 0, 2), impl.LimitPot, 0), true, impl.Choices{Call: 2, Least: 4, Most: 7}},
	{"less than the pot left", limited(roundOf(list(6, 99, 99), list(0, 1, 2), list(0, 0, 0), "...", 0, 2), impl.LimitPot, 0), true, impl.Choices{Call: 2, Least: 4, Most: 6}},
	{"a pot of just the unit", limited(roundOf(list(9, 9), list(0, 0), list(1, 1), "..", 0, 2), impl.LimitPot, 0), true, impl.Choices{Check: true, Least: 2, Most: 2}},
	{"a pot of less than the unit", limited(roundOf(list(9, 9), list(0, 0), list(1, 1), "..", 0, 3), impl.LimitPot, 0), true, impl.Choices{Check: true, Least: 2, Most: 2}},
	{"no pot", limited(roundOf(list(9, 9), list(0, 0), list(0, 0), "..", 0, 2), impl.LimitPot, 0), true, impl.Choices{Check: true}},
	{"a fixed raise", limited(roundOf(list(99, 99), list(1, 2), list(50, 50), "..", 0, 2), impl.LimitFixed, 0), true, impl.Choices{Call: 1, Least: 4, Most: 4}},
	{"the fourth fixed raise", limited(roundOf(list(99, 99), list(6, 8), list(0, 0), "..", 0, 2), impl.LimitFixed, 3), true, impl.Choices{Call: 2, Least: 10, Most: 10}},
	{"no fifth fixed raise", limited(roundOf(list(99, 99), list(8, 10), list(0, 0), "..", 0, 2), impl.LimitFixed, 4), true, impl.Choices{Call: 2}},
	{"no fifth fixed raise behind a check", limited(roundOf(list(99, 99), list(8, 8), list(0, 0), "..", 0, 2), impl.LimitFixed, 4), true, impl.Choices{Check: true}},
	{"less than a fixed raise left", limited(roundOf(list(2, 99), list(1, 2), list(0, 0), "..", 0, 2), impl.LimitFixed, 0), true, impl.Choices{Call: 1, Least: 3, Most: 3}},
	{"all chips there are", roundOf(list(300000, 299999), list(0, 1), list(0, 0), "..", 0, 100000), true, impl.Choices{Call: 1, Least: 100001, Most: 300000}},
}

func TestKnownChoices(t *testing.T) {
	for _, c := range knownChoices {
		wantCode := int64(impl.ErrState)
		if c.isOpen {
			wantCode = impl.ErrNone
		}
		if got, code := impl.ChoicesIn(c.b); got != c.want || code != wantCode || impl.IsOpen(c.b) != c.isOpen || !impl.IsBetting(c.b) {
			t.Error("the choices of", c.name, "are", got, code, impl.IsOpen(c.b))
		}
		for kind, want := range []bool{c.isOpen, c.want.Check, c.want.Call > 0, false, false} {
			if got := impl.IsLegal(c.b, act(int64(kind))); got != want {
				t.Error("IsLegal of", c.name, "and the kind", kind, "is", got)
			}
		}
		for amount := int64(-1); amount <= min(c.want.Most+3, 200); amount++ {
			want := c.want.Most > 0 && amount >= c.want.Least && amount <= c.want.Most
			if got := impl.IsLegal(c.b, raiseTo(amount)); got != want {
				t.Error("IsLegal of", c.name, "and a raise to", amount, "is", got)
			}
		}
		for _, a := range actionsFor(c.b) {
			expectAction(t, c.b, a)
		}
	}
}

// knownSteps are rounds, actions, and the rounds that have to follow.
var knownSteps = []struct {
	name string
	b    impl.Betting
	a    impl.Action
	want impl.Betting
}{
	{"a fold", roundOf(list(9, 8, 7), list(1, 2, 0), list(3, 4, 5), "...", 2, 2), act(impl.ActFold),
		roundOf(list(9, 8, 7), list(1, 2, 0), list(3, 4, 5), "..b", 0, 2)},
	{"a fold where one is left", roundOf(list(9, 8), list(1, 2), list(0, 0), "..", 0, 2), act(impl.ActFold),
		roundOf(list(9, 8), list(1, 2), list(0, 0), "b.", 0, 2)},
	{"a fold where a check is a choice", roundOf(list(9, 8), list(2, 2), list(0, 0), "..", 1, 2), act(impl.ActFold),
		roundOf(list(9, 8), list(2, 2), list(0, 0), ".b", 1, 2)},
	{"a fold where one is left that has bet less", roundOf(list(9, 8), list(1, 2), list(0, 0), "..", 1, 2), act(impl.ActFold),
		roundOf(list(9, 8), list(1, 2), list(0, 0), ".b", 0, 2)},
	{"a check", roundOf(list(9, 8), list(0, 0), list(5, 5), "..", 1, 2), act(impl.ActCheck),
		roundOf(list(9, 8), list(0, 0), list(5, 5), ".a", 0, 2)},
	{"the last check", roundOf(list(9, 8), list(2, 2), list(0, 0), "a.", 1, 2), act(impl.ActCheck),
		roundOf(list(9, 8), list(2, 2), list(0, 0), "aa", 1, 2)},
	{"a call", roundOf(list(9, 8), list(1, 2), list(0, 0), "..", 0, 2), act(impl.ActCall),
		roundOf(list(8, 8), list(2, 2), list(0, 0), "a.", 1, 2)},
	{"a call for less", roundOf(list(3, 8, 9), list(1, 8, 0), list(0, 0, 0), ".a.", 0, 6), act(impl.ActCall),
		roundOf(list(0, 8, 9), list(4, 8, 0), list(0, 0, 0), "aa.", 2, 6)},
	{"the last call", roundOf(list(9, 8, 9), list(2, 8, 8), list(0, 0, 0), ".aa", 0, 6), act(impl.ActCall),
		roundOf(list(3, 8, 9), list(8, 8, 8), list(0, 0, 0), "aaa", 0, 6)},
	{"the least raise", roundOf(list(9, 8), list(1, 2), list(0, 0), "..", 0, 2), raiseTo(4),
		limited(roundOf(list(6, 8), list(4, 2), list(0, 0), "a.", 1, 2), 0, 1)},
	{"a greater raise", limited(roundOf(list(9, 8), list(1, 2), list(0, 0), "..", 0, 2), 0, 2), raiseTo(7),
		limited(roundOf(list(3, 8), list(7, 2), list(0, 0), "a.", 1, 5), 0, 3)},
	{"the greatest raise", roundOf(list(9, 8), list(1, 2), list(0, 0), "..", 0, 2), raiseTo(10),
		limited(roundOf(list(0, 8), list(10, 2), list(0, 0), "a.", 1, 8), 0, 1)},
	{"a full raise, behind which all but it have not acted", roundOf(list(9, 9, 9, 9, 0, 9), list(2, 2, 2, 0, 1, 2), list(0, 0, 0, 0, 0, 0), "aa.bba", 2, 2), raiseTo(4),
		limited(roundOf(list(9, 9, 7, 9, 0, 9), list(2, 2, 4, 0, 1, 2), list(0, 0, 0, 0, 0, 0), "..aff.", 5, 2), 0, 1)},
	{"an all-in raise that is not full", roundOf(list(9, 4, 9), list(10, 10, 10), list(0, 0, 0), "a.a", 1, 5), raiseTo(14),
		limited(roundOf(list(9, 0, 9), list(10, 14, 10), list(0, 0, 0), "aaa", 2, 5), 0, 1)},
	{"an all-in raise that is just full", roundOf(list(9, 5, 9), list(10, 10, 10), list(0, 0, 0), "a.a", 1, 5), raiseTo(15),
		limited(roundOf(list(9, 0, 9), list(10, 15, 10), list(0, 0, 0), ".a.", 2, 5), 0, 1)},
	{"a raise by the pot that is not full", limited(roundOf(list(9, 9), list(0, 0), list(1, 1), ".a", 0, 3), 1, 0), raiseTo(2),
		limited(roundOf(list(7, 9), list(2, 0), list(1, 1), "aa", 1, 3), 1, 1)},
	{"a raise by the pot that is full", limited(roundOf(list(99, 99), list(1, 2), list(0, 0), "..", 0, 2), 1, 0), raiseTo(6),
		limited(roundOf(list(94, 99), list(6, 2), list(0, 0), "a.", 1, 4), 1, 1)},
	{"the fourth fixed raise", limited(roundOf(list(99, 99), list(6, 8), list(0, 0), ".a", 0, 2), 2, 3), raiseTo(10),
		limited(roundOf(list(95, 99), list(10, 8), list(0, 0), "a.", 1, 2), 2, 4)},
	{"a fixed raise that is not full", limited(roundOf(list(2, 99), list(1, 2), list(0, 0), ".a", 0, 2), 2, 0), raiseTo(3),
		limited(roundOf(list(0, 99), list(3, 2), list(0, 0), "aa", 1, 2), 2, 1)},
	{"a fifth raise without a limit", limited(roundOf(list(99, 99), list(6, 8), list(0, 0), "..", 0, 2), 0, 4), raiseTo(10),
		limited(roundOf(list(95, 99), list(10, 8), list(0, 0), "a.", 1, 2), 0, 4)},
	{"a fifth raise with the pot", limited(roundOf(list(99, 99), list(6, 8), list(0, 0), "..", 0, 2), 1, 4), raiseTo(11),
		limited(roundOf(list(94, 99), list(11, 8), list(0, 0), "a.", 1, 3), 1, 4)},
	{"a raise of MaxStack", roundOf(list(150000, 150000), list(0, 0), list(0, 0), "..", 0, 1), raiseTo(100000),
		limited(roundOf(list(50000, 150000), list(100000, 0), list(0, 0), "a.", 1, 100000), 0, 1)},
	{"a raise of one more", roundOf(list(150000, 150000), list(0, 0), list(0, 0), "..", 0, 1), raiseTo(100001),
		limited(roundOf(list(49999, 150000), list(100001, 0), list(0, 0), "a.", 1, 100001), 0, 1)},
	{"a turn past seats that have folded or have nothing left", roundOf(list(9, 9, 9, 0, 9, 9), list(2, 0, 0, 1, 2, 2), list(0, 0, 0, 0, 0, 0), "a.f.fa", 1, 2), raiseTo(8),
		limited(roundOf(list(9, 1, 9, 0, 9, 9), list(2, 8, 0, 1, 2, 2), list(0, 0, 0, 0, 0, 0), ".af.f.", 5, 6), 0, 1)},
	{"a fold behind which all have folded", roundOf(list(9, 9, 9), list(1, 2, 0), list(0, 0, 0), ".ff", 0, 2), act(impl.ActFold),
		roundOf(list(9, 9, 9), list(1, 2, 0), list(0, 0, 0), "bff", 0, 2)},
	{"a turn to the seat that can still act", roundOf(list(9, 9, 9, 9), list(0, 2, 2, 1), list(0, 0, 0, 0), "f.aa", 3, 2), act(impl.ActCall),
		roundOf(list(9, 9, 9, 8), list(0, 2, 2, 2), list(0, 0, 0, 0), "f.aa", 1, 2)},
	{"a turn that stays where it is", roundOf(list(9, 9, 0, 9), list(2, 2, 1, 1), list(0, 0, 0, 0), "aa.a", 3, 2), act(impl.ActCall),
		roundOf(list(9, 9, 0, 8), list(2, 2, 1, 2), list(0, 0, 0, 0), "aa.a", 3, 2)},
}

func TestKnownSteps(t *testing.T) {
	for _, c := range knownSteps {
		if got, code := impl.ApplyAction(c.b, c.a); !sameRound(got, c.want) || code != impl.ErrNone {
			t.Errorf("%s gives %+v, %v and not %+v", c.name, got, code, c.want)
		}
		expectAction(t, c.b, c.a)
	}
}

// A raise may be greater than MaxStack; the round behind it is not valid then.
func TestRaisesOfMoreThanMaxStack(t *testing.T) {
	b := roundOf(list(200000, 200000, 200000), list(0, 0, 0), list(0, 0, 0), "...", 0, 1)
	for amount, want := range map[int64]bool{99999: true, 100000: true, 100001: false, 150000: false, 200000: false} {
		next, code := impl.ApplyAction(b, raiseTo(amount))
		if code != impl.ErrNone || next.Unit != amount || next.Turn != 1 || next.Raises != 1 || impl.IsBetting(next) != want || impl.IsOpen(next) != want {
			t.Errorf("a raise to %v gives %+v, %v", amount, next, code)
		}
		if _, code := impl.ChoicesIn(next); (code == impl.ErrNone) != want || !want && code != impl.ErrInvalid {
			t.Error("behind a raise to", amount, "ChoicesIn returns", code)
		}
	}
}

// play applies actions that have to be legal.
func play(t *testing.T, b impl.Betting, actions ...impl.Action) impl.Betting {
	t.Helper()
	for _, a := range actions {
		next, code := impl.ApplyAction(b, a)
		if code != impl.ErrNone {
			t.Fatalf("ApplyAction of %+v, %+v returns %v", b, a, code)
		}
		b = next
	}
	return b
}

// expectTurn compares the seat whose turn it is and its choices with what they have to be.
func expectTurn(t *testing.T, b impl.Betting, turn int64, want impl.Choices) {
	t.Helper()
	if got, code := impl.ChoicesIn(b); b.Turn != turn || got != want || code != impl.ErrNone {
		t.Errorf("the choices in %+v are %+v, %v and not %+v", b, got, code, want)
	}
}

// Behind a raise that is not full, a seat that has acted may only call or fold, also if two such raises
// together are as much as a full one; a seat that has not acted may raise, and reopens the round.
func TestRaisesThatAreNotFull(t *testing.T) {
	b := roundOf(list(100, 15, 22, 100, 100), list(0, 0, 0, 0, 0), list(1, 1, 1, 1, 1), ".....", 0, 2)
	b = play(t, b, raiseTo(10))
	expectTurn(t, b, 1, impl.Choices{Call: 10, Least: 15, Most: 15})
	b = play(t, b, raiseTo(15))
	expectTurn(t, b, 2, impl.Choices{Call: 15, Least: 22, Most: 22})
	b = play(t, b, raiseTo(22))
	expectTurn(t, b, 3, impl.Choices{Call: 22, Least: 32, Most: 100})
	called := play(t, b, act(impl.ActCall), act(impl.ActCall))
	expectTurn(t, called, 0, impl.Choices{Call: 12})
	if closed := play(t, called, act(impl.ActCall)); impl.IsOpen(closed) || closed.Turn != 0 || !slices.Equal(closed.Bets, list(22, 15, 22, 22, 22)) {
		t.Errorf("the round ends with %+v", closed)
	}
	raised := play(t, b, raiseTo(32), act(impl.ActFold))
	expectTurn(t, raised, 0, impl.Choices{Call: 22, Least: 42, Most: 100})
	again := play(t, raised, raiseTo(42))
	expectTurn(t, again, 3, impl.Choices{Call: 10, Least: 52, Most: 100})
	if again.Unit != 10 || again.Raises != 4 {
		t.Errorf("the round behind full raises is %+v", again)
	}
}

// With LimitFixed there are four raises of the unit each, also for less.
func TestFixedRaises(t *testing.T) {
	b := limited(roundOf(list(100, 99, 98), list(0, 1, 2), list(0, 0, 0), "...", 0, 2), impl.LimitFixed, 0)
	for raises, want := range []int64{4, 6, 8, 10} {
		expectTurn(t, b, int64(raises)%3, impl.Choices{Call: want - 2 - b.Bets[b.Turn], Least: want, Most: want})
		b = play(t, b, raiseTo(want))
		if b.Raises != int64(raises)+1 || b.Unit != 2 {
			t.Errorf("the round behind a raise is %+v", b)
		}
	}
	expectTurn(t, b, 1, impl.Choices{Call: 4})
	b = play(t, b, act(impl.ActCall))
	expectTurn(t, b, 2, impl.Choices{Call: 2})
	if b = play(t, b, act(impl.ActCall)); impl.IsOpen(b) || b.Turn != 2 || !slices.Equal(b.Bets, list(10, 10, 10)) {
		t.Errorf("the round ends with %+v", b)
	}
	short := limited(roundOf(list(3, 99), list(0, 2), list(0, 0), "..", 0, 2), impl.LimitFixed, 3)
	expectTurn(t, short, 0, impl.Choices{Call: 2, Least: 3, Most: 3})
	expectTurn(t, play(t, short, raiseTo(3)), 1, impl.Choices{Call: 1})
}

// The big blind may raise when all others have called, and the round ends when it checks.
func TestOptionOfTheBigBlind(t *testing.T) {
	b := roundOf(list(100, 99, 98), list(0, 1, 2), list(0, 0, 0), "...", 0, 2)
	b = play(t, b, act(impl.ActCall), act(impl.ActCall))
	expectTurn(t, b, 2, impl.Choices{Check: true, Least: 4, Most: 100})
	if closed := play(t, b, act(impl.ActCheck)); impl.IsOpen(closed) || closed.Turn != 2 {
		t.Errorf("the round ends with %+v", closed)
	}
	expectTurn(t, play(t, b, raiseTo(4)), 0, impl.Choices{Call: 2, Least: 6, Most: 100})
}

func TestSmallRounds(t *testing.T) {
	for _, b := range smallRounds() {
		expectSums(t, b)
		expectChoices(t, b)
		for _, a := range actionsFor(b) {
			expectAction(t, b, a)
		}
	}
}

func TestRandomRounds(t *testing.T) {
	open := 0
	for _, b := range randomRounds() {
		expectSums(t, b)
		expectChoices(t, b)
		for _, a := range actionsFor(b) {
			expectAction(t, b, a)
		}
		if isOpenAs(b) {
			open++
		}
	}
	if open < 5000 {
		t.Error("only", open, "rounds are open")
	}
}

// No number is taken for another one of which it has some bits.
func TestActionsOfFarNumbers(t *testing.T) {
	for _, b := range someRounds() {
		for _, n := range slices.Concat(farNumbers, list(-3, 5, 6, 7, 8, 255, 256, 600000, 600001)) {
			for kind := range int64(5) {
				expectAction(t, b, impl.Action{Kind: kind, Amount: n})
			}
			expectAction(t, b, act(n))
			if c, code := impl.ChoicesIn(b); code == impl.ErrNone {
				expectAction(t, b, impl.Action{Kind: n, Amount: c.Least})
			}
		}
	}
}

// legalIn are legal actions of an open round.
func legalIn(b impl.Betting) []impl.Action {
	c, _ := impl.ChoicesIn(b)
	actions := []impl.Action{act(impl.ActFold)}
	if c.Check {
		actions = append(actions, act(impl.ActCheck))
	}
	if c.Call > 0 {
		actions = append(actions, act(impl.ActCall))
	}
	if c.Most > 0 {
		actions = append(actions, raiseTo(c.Least), raiseTo((c.Least+c.Most)/2), raiseTo(c.Most))
	}
	return actions
}

// expectConserved checks the guarantee of the chapter for a round and all of its actions.
func expectConserved(t *testing.T, b impl.Betting) {
	t.Helper()
	chips, code := impl.ChipsIn(b)
	if code != impl.ErrNone {
		t.Fatalf("ChipsIn of %+v returns %v", b, code)
	}
	if !impl.IsOpen(b) {
		return
	}
	mayCheck, mayCall := impl.IsLegal(b, act(impl.ActCheck)), impl.IsLegal(b, act(impl.ActCall))
	if !impl.IsLegal(b, act(impl.ActFold)) || mayCheck == mayCall {
		t.Fatalf("of fold, check and call %+v has not the right choices", b)
	}
	for _, a := range legalIn(b) {
		next, code := impl.ApplyAction(b, a)
		if code != impl.ErrNone || sumOf(slices.Concat(next.Stacks, next.Bets, next.Paid)) != chips {
			t.Fatalf("ApplyAction of %+v, %+v is %+v, %v", b, a, next, code)
		}
		for seat, stack := range next.Stacks {
			if stack < 0 || stack+next.Bets[seat] != b.Stacks[seat]+b.Bets[seat] || next.Paid[seat] != b.Paid[seat] {
				t.Fatalf("ApplyAction of %+v, %+v is %+v", b, a, next)
			}
		}
		// Where a folded seat has bet the most, the last one that has not may fold, too.
		if isValid := impl.IsBetting(next); isValid != (next.Unit <= 100000 && slices.Contains(next.Folded, false)) {
			t.Fatalf("IsBetting behind %+v, %+v is %v", b, a, isValid)
		}
	}
}

func TestActionsConserveChips(t *testing.T) {
	for _, b := range slices.Concat(smallRounds(), randomRounds()) {
		expectConserved(t, b)
	}
}

// Hands are played street by street with random actions; each round comes to an end, and in each the
// chips are those of the table.
func TestPlayedRounds(t *testing.T) {
	source := rand.New(rand.NewSource(110))
	for _, table := range slices.Concat(largeTables(), largeTables(), baseTables()) {
		b := firstRoundAs(table)
		for street := 0; street < 4; street++ {
			for steps := 0; impl.IsOpen(b); steps++ {
				if steps > 1000 {
					t.Fatalf("the round is not closed: %+v", b)
				}
				expectChoices(t, b)
				expectSums(t, b)
				expectConserved(t, b)
				legal := legalIn(b)
				a := legal[source.Intn(len(legal))]
				// Most folds are left out, so that hands go on for long enough.
				if a.Kind == impl.ActFold && source.Intn(4) > 0 {
					a = legal[1]
				}
				expectAction(t, b, a)
				b = play(t, b, a)
			}
			if chips, code := impl.ChipsIn(b); chips != sumOf(table.Stacks) || code != impl.ErrNone {
				t.Fatalf("ChipsIn of %+v is %v, %v", b, chips, code)
			}
			b = laterRoundAs(b, rowOf(table).later)
		}
	}
}

// Checks and calls close a round; each seat acts at most once.
func TestChecksAndCallsCloseRounds(t *testing.T) {
	for _, b := range slices.Concat(smallRounds(), randomRounds()) {
		for range b.Stacks {
			if !impl.IsOpen(b) {
				break
			}
			kind := int64(impl.ActCall)
			if impl.IsLegal(b, act(impl.ActCheck)) {
				kind = impl.ActCheck
			}
			b = play(t, b, act(kind))
		}
		if impl.IsOpen(b) {
			t.Fatalf("the round is still open: %+v", b)
		}
	}
}

// The functions that need no open round look at one that is not open, too.
func TestKnownSums(t *testing.T) {
	for _, c := range []struct {
		b          impl.Betting
		pot, chips int64
		live       []int64
	}{
		{roundOf(list(9, 8), list(1, 2), list(3, 4), "..", 0, 2), 10, 27, list(0, 1)},
		{roundOf(list(9, 8), list(1, 2), list(3, 4), "aa", 0, 2), 10, 27, list(0, 1)},
		{roundOf(list(9, 8), list(2, 2), list(0, 0), "b.", 0, 2), 4, 21, list(1)},
		{roundOf(list(0, 0), list(0, 0), list(0, 0), ".f", 1, 2), 0, 0, list(0)},
		{roundOf(list(1, 2, 4, 8, 16, 32), list(64, 128, 256, 512, 1024, 2048), list(4096, 8192, 16384, 32768, 65536, 131072), "f.fb.a", 0, 2), 262080, 262143, list(1, 4, 5)},
		{roundOf(list(100000, 0, 0, 0, 0, 100000), list(0, 100000, 0, 100000, 0, 0), list(0, 0, 100000, 0, 100000, 0), "......", 5, 100000), 400000, 600000, list(0, 1, 2, 3, 4, 5)},
	} {
		expectSums(t, c.b)
		pot, _ := impl.PotIn(c.b)
		chips, _ := impl.ChipsIn(c.b)
		live, _ := impl.LiveSeats(c.b)
		if pot != c.pot || chips != c.chips || !slices.Equal(live, c.live) {
			t.Errorf("PotIn, ChipsIn and LiveSeats of %+v are %v, %v, %v", c.b, pot, chips, live)
		}
	}
}

// codesOf are the errors of all functions for a round and an action, and whether all other results are
// the zero value.
func codesOf(b impl.Betting, a impl.Action) (codes []int64, isZero bool) {
	choices, first := impl.ChoicesIn(b)
	next, second := impl.ApplyAction(b, a)
	pot, third := impl.PotIn(b)
	chips, fourth := impl.ChipsIn(b)
	live, fifth := impl.LiveSeats(b)
	isZero = choices == impl.Choices{} && isZeroRound(next) && pot == 0 && chips == 0 && len(live) == 0
	return list(first, second, third, fourth, fifth), isZero && !impl.IsOpen(b) && !impl.IsLegal(b, a) && !impl.IsBetting(b)
}

// The error of a round that is not valid comes first, whatever the action is.
func TestFunctionsOfInvalidRounds(t *testing.T) {
	for _, b := range invalidRounds() {
		for _, a := range []impl.Action{act(impl.ActFold), act(impl.ActCheck), act(impl.ActCall), raiseTo(10), raiseTo(0), act(-1), act(4), {Amount: 1}} {
			if codes, isZero := codesOf(b, a); !slices.Equal(codes, list(1, 1, 1, 1, 1)) || !isZero {
				t.Fatalf("the functions of %+v, %+v return %v, %v", b, a, codes, isZero)
			}
		}
	}
}

// The error of a round that is not open comes before that of an action that is not one of the choices.
func TestFirstErrorOfApplyAction(t *testing.T) {
	open := roundOf(list(9, 8), list(1, 2), list(0, 0), "..", 0, 2)
	closed := roundOf(list(9, 8), list(2, 2), list(0, 0), "aa", 0, 2)
	invalid := roundOf(list(9, 8), list(2, 2), list(0, 0), "aa", 0, 0)
	for _, a := range []impl.Action{act(impl.ActCheck), raiseTo(3), raiseTo(11), raiseTo(0), act(-1), act(4), {Kind: impl.ActCall, Amount: 1}, {Kind: impl.ActFold, Amount: 4}} {
		for code, b := range map[int64]impl.Betting{impl.ErrRange: open, impl.ErrState: closed, impl.ErrInvalid: invalid} {
			if got, gotCode := impl.ApplyAction(b, a); !isZeroRound(got) || gotCode != code || impl.IsLegal(b, a) {
				t.Errorf("ApplyAction of %+v, %+v is %+v, %v", b, a, got, gotCode)
			}
		}
	}
	for _, a := range []impl.Action{act(impl.ActFold), act(impl.ActCall), raiseTo(4), raiseTo(10)} {
		for code, b := range map[int64]impl.Betting{impl.ErrNone: open, impl.ErrState: closed, impl.ErrInvalid: invalid} {
			if got, gotCode := impl.ApplyAction(b, a); gotCode != code || isZeroRound(got) != (code != impl.ErrNone) || impl.IsLegal(b, a) != (code == impl.ErrNone) {
				t.Errorf("ApplyAction of %+v, %+v is %+v, %v", b, a, got, gotCode)
			}
		}
	}
}

// guardedBools returns a copy of the list with known values in its spare capacity.
func guardedBools(list []bool) []bool {
	long := append(slices.Clone(list), true, false, true)
	return long[:len(list)]
}

// sameAsGuardedBools reports whether the list and its spare capacity are as guardedBools made them.
func sameAsGuardedBools(kept, list []bool) bool {
	return slices.Equal(kept[:len(list)+3], append(slices.Clone(list), true, false, true))
}

func guardedRound(b impl.Betting) impl.Betting {
	b.Stacks, b.Bets, b.Paid = guarded(b.Stacks), guarded(b.Bets), guarded(b.Paid)
	b.Folded, b.Acted = guardedBools(b.Folded), guardedBools(b.Acted)
	return b
}

// sameAsGuardedRound reports whether the lists and their spare capacities are as guardedRound made them.
func sameAsGuardedRound(kept, b impl.Betting) bool {
	return sameRound(kept, b) && sameAsGuarded(kept.Stacks, b.Stacks) && sameAsGuarded(kept.Bets, b.Bets) && sameAsGuarded(kept.Paid, b.Paid) &&
		sameAsGuardedBools(kept.Folded, b.Folded) && sameAsGuardedBools(kept.Acted, b.Acted)
}

func TestRoundArgumentsStay(t *testing.T) {
	for _, b := range slices.Concat(someRounds(), invalidRounds()) {
		kept := guardedRound(b)
		for _, a := range []impl.Action{act(impl.ActFold), act(impl.ActCheck), act(impl.ActCall), raiseTo(7), act(4)} {
			codesOf(kept, a)
		}
		if c, code := impl.ChoicesIn(b); code == impl.ErrNone {
			codesOf(kept, raiseTo(c.Least))
			codesOf(kept, raiseTo(c.Most))
		}
		if !sameAsGuardedRound(kept, b) {
			t.Fatalf("%+v has become %+v", b, kept)
		}
	}
}

// overwriteList changes one of the lists of a round and the spare capacity behind it.
func overwriteList(b impl.Betting, number int) {
	if number < 3 {
		overwrite([][]int64{b.Stacks, b.Bets, b.Paid}[number])
		return
	}
	flags := [][]bool{b.Folded, b.Acted}[number-3]
	for seat := range flags[:cap(flags)] {
		flags[:cap(flags)][seat] = !flags[:cap(flags)][seat]
	}
}

// restored returns a round with one of its lists from another one.
func restored(b, from impl.Betting, number int) impl.Betting {
	from = copyOfRound(from)
	switch number {
	case 0:
		b.Stacks = from.Stacks
	case 1:
		b.Bets = from.Bets
	case 2:
		b.Paid = from.Paid
	case 3:
		b.Folded = from.Folded
	case 4:
		b.Acted = from.Acted
	}
	return b
}

// givesNewRounds reports whether a call returns the same round each time, and overwriting one of its
// lists changes neither the others, nor what another call has returned or will return.
func givesNewRounds(call func() impl.Betting) bool {
	first := call()
	want := copyOfRound(first)
	for number := range 5 {
		second := call()
		overwriteList(second, number)
		if !sameRound(restored(second, want, number), want) || !sameRound(first, want) {
			return false
		}
	}
	return sameRound(call(), want)
}

func TestRoundResultsAreNew(t *testing.T) {
	for _, b := range someRounds() {
		if !impl.IsOpen(b) {
			continue
		}
		kept := guardedRound(b)
		for _, a := range legalIn(b) {
			next := func() impl.Betting { got, _ := impl.ApplyAction(kept, a); return got }
			if !givesNewRounds(next) || !sameAsGuardedRound(kept, b) {
				t.Fatalf("ApplyAction of %+v, %+v shares memory", b, a)
			}
			expectAction(t, kept, a)
		}
		live := func() []int64 { got, _ := impl.LiveSeats(kept); return got }
		if !givesNewLists(live) || !sameAsGuardedRound(kept, b) {
			t.Fatalf("LiveSeats of %+v shares memory", b)
		}
	}
}

// The lists of an argument may share memory; those of a result do not.
func TestRoundsWithListsThatAreTheSame(t *testing.T) {
	chips, flags := list(5, 5, 5, 5), make([]bool, 4)
	b := impl.Betting{Stacks: chips, Bets: chips, Paid: chips, Folded: flags, Acted: flags, Turn: 3, Unit: 2}
	for a, want := range map[impl.Action]impl.Betting{
		act(impl.ActFold):  roundOf(list(5, 5, 5, 5), list(5, 5, 5, 5), list(5, 5, 5, 5), "...b", 0, 2),
		act(impl.ActCheck): roundOf(list(5, 5, 5, 5), list(5, 5, 5, 5), list(5, 5, 5, 5), "...a", 0, 2),
		raiseTo(8):         limited(roundOf(list(5, 5, 5, 2), list(5, 5, 5, 8), list(5, 5, 5, 5), "...a", 0, 3), 0, 1),
	} {
		if got, code := impl.ApplyAction(b, a); !sameRound(got, want) || code != impl.ErrNone {
			t.Errorf("ApplyAction of %+v, %+v is %+v, %v", b, a, got, code)
		}
		if !slices.Equal(chips, list(5, 5, 5, 5)) || slices.Contains(flags, true) {
			t.Error("the argument has become", chips, flags)
		}
	}
}
