package tests

import (
	"math"
	"math/rand"
	"slices"
	"strings"
	"testing"

	"loop.example/g00910/impl"
)

// seatRow has, for a number of seats and a button, the seats of the blinds, and those that act first in
// the street 0 and in later ones.
type seatRow struct{ seats, button, small, big, first, later int64 }

// seatRows are all that there are.
var seatRows = []seatRow{
	{2, 0, 0, 1, 0, 1}, {2, 1, 1, 0, 1, 0},
	{3, 0, 1, 2, 0, 1}, {3, 1, 2, 0, 1, 2}, {3, 2, 0, 1, 2, 0},
	{4, 0, 1, 2, 3, 1}, {4, 1, 2, 3, 0, 2}, {4, 2, 3, 0, 1, 3}, {4, 3, 0, 1, 2, 0},
	{5, 0, 1, 2, 3, 1}, {5, 1, 2, 3, 4, 2}, {5, 2, 3, 4, 0, 3}, {5, 3, 4, 0, 1, 4}, {5, 4, 0, 1, 2, 0},
	{6, 0, 1, 2, 3, 1}, {6, 1, 2, 3, 4, 2}, {6, 2, 3, 4, 5, 3}, {6, 3, 4, 5, 0, 4}, {6, 4, 5, 0, 1, 5}, {6, 5, 0, 1, 2, 0},
}

// rowOf returns the row of a valid table.
func rowOf(table impl.Table) seatRow {
	for _, row := range seatRows {
		if row.seats == int64(len(table.Stacks)) && row.button == table.Button {
			return row
		}
	}
	panic("the table has no row")
}

// farNumbers are far outside all ranges, also where only some of their bits would be small numbers.
var farNumbers = []int64{math.MinInt64, math.MinInt64 + 1, math.MinInt64 + 2, -1 << 32, -1<<32 + 1, -1<<32 + 2, -100000, -2,
	200000, 1<<16 + 100000, 1 << 32, 1<<32 + 1, 1<<32 + 2, 1<<48 + 1, 1 << 62, math.MaxInt64 - 1, math.MaxInt64}

// isTableAs decides by the definition, with the numbers of the document.
func isTableAs(table impl.Table) bool {
	seats := int64(len(table.Stacks))
	if seats < 2 || seats > 6 || table.Button < 0 || table.Button >= seats {
		return false
	}
	for _, stack := range table.Stacks {
		if stack < 1 || stack > 100000 {
			return false
		}
	}
	return table.Big >= 1 && table.Big <= 100000 && table.Small >= 0 && table.Small <= table.Big &&
		table.Ante >= 0 && table.Ante <= 100000 && table.Limit >= 0 && table.Limit <= 2
}

// tableOf has some stacks, a button, blinds and an ante, without a limit.
func tableOf(stacks []int64, button, small, big, ante int64) impl.Table {
	return impl.Table{Stacks: stacks, Button: button, Small: small, Big: big, Ante: ante}
}

// copyOfTable shares no memory with the table.
func copyOfTable(table impl.Table) impl.Table {
	table.Stacks = slices.Clone(table.Stacks)
	return table
}

func sameTable(a, b impl.Table) bool {
	return slices.Equal(a.Stacks, b.Stacks) && a.Button == b.Button && a.Small == b.Small && a.Big == b.Big &&
		a.Ante == b.Ante && a.Limit == b.Limit
}

func isZeroTable(table impl.Table) bool { return sameTable(table, impl.Table{}) }

func sumOf(list []int64) int64 {
	sum := int64(0)
	for _, n := range list {
		sum += n
	}
	return sum
}

// smallTables are all tables of two and of three seats with stacks and blinds of at most 4 and an ante
// of at most 5.
func smallTables() []impl.Table {
	var tables []impl.Table
	for _, row := range seatRows[:5] {
		for number := range int64(math.Pow(4, float64(row.seats))) {
			for ante := range int64(6) {
				for blinds := range int64(20) {
					table := tableOf(nil, row.button, blinds%5, blinds/5+1, ante)
					table.Limit = (number + ante + blinds) % 3
					for rest := number; int64(len(table.Stacks)) < row.seats; rest /= 4 {
						table.Stacks = append(table.Stacks, rest%4+1)
					}
					if table.Small <= table.Big {
						tables = append(tables, table)
					}
				}
			}
		}
	}
	return tables
}

// largeTables are random tables of all sizes, with numbers near one another or up to the greatest ones.
func largeTables() []impl.Table {
	source := rand.New(rand.NewSource(9))
	var tables []impl.Table
	for _, row := range seatRows {
		for _, greatest := range []int64{1, 3, 10, 100, 100000} {
			for range 6 {
				table := tableOf(nil, row.button, 0, 1+source.Int63n(greatest), source.Int63n(greatest+1))
				table.Small = source.Int63n(table.Big + 1)
				table.Limit = source.Int63n(3)
				for range row.seats {
					table.Stacks = append(table.Stacks, 1+source.Int63n(greatest))
				}
				tables = append(tables, table)
			}
		}
	}
	return tables
}

// baseTables are valid tables of each number of seats and each button.
func baseTables() []impl.Table {
	var tables []impl.Table
	for _, row := range seatRows {
		stacks := []int64{100, 50, 2, 100000, 1, 7}[:row.seats]
		table := copyOfTable(tableOf(stacks, row.button, row.button, 5, row.seats-2))
		table.Limit = row.button % 3
		tables = append(tables, table)
	}
	return tables
}

// fieldsOf are the numbers of a table.
func fieldsOf(table *impl.Table) map[string]*int64 {
	fields := map[string]*int64{"Button": &table.Button, "Small": &table.Small, "Big": &table.Big, "Ante": &table.Ante, "Limit": &table.Limit}
	for seat := range table.Stacks {
		fields["Stacks "+string(rune('0'+seat))] = &table.Stacks[seat]
	}
	return fields
}

// changedTables differ from valid tables in one number, or have other numbers of seats; some of them are
// valid.
func changedTables() []impl.Table {
	numbers := append([]int64{-1, 0, 1, 2, 3, 4, 5, 6, 7, 99999, 100000, 100001}, farNumbers...)
	tables := []impl.Table{{}, {Stacks: []int64{}}, {Stacks: []int64{5, 5}}, {Big: 1}}
	for _, base := range baseTables() {
		for name := range fieldsOf(&base) {
			for _, number := range numbers {
				table := copyOfTable(base)
				*fieldsOf(&table)[name] = number
				tables = append(tables, table)
			}
		}
		for _, seats := range []int{0, 1, 2, 3, 4, 5, 6, 7, 8, 12, 256, 258, 65538} {
			for _, button := range []int64{0, base.Button, int64(seats) - 1, int64(seats)} {
				table := base
				table.Stacks = slices.Repeat([]int64{9}, seats)
				table.Button = button
				tables = append(tables, table)
			}
		}
	}
	return tables
}

func invalidTables() []impl.Table {
	return slices.DeleteFunc(changedTables(), isTableAs)
}

// paidAs pays the antes and then the blinds chip by chip, as long as a seat has any.
func paidAs(table impl.Table) (antes, blinds []int64) {
	row := rowOf(table)
	antes, blinds = make([]int64, row.seats), make([]int64, row.seats)
	for seat, left := range table.Stacks {
		for ; antes[seat] < table.Ante && left > 0; left-- {
			antes[seat]++
		}
		blind := map[int64]int64{row.small: table.Small, row.big: table.Big}[int64(seat)]
		for ; blinds[seat] < blind && left > 0; left-- {
			blinds[seat]++
		}
	}
	return antes, blinds
}

// expectPaid compares AntesOf and BlindsOf with what they have to be.
func expectPaid(t *testing.T, table impl.Table, antes, blinds []int64) {
	t.Helper()
	if got, code := impl.AntesOf(table); !slices.Equal(got, antes) || code != impl.ErrNone {
		t.Error("AntesOf of", table, "is", got, code, "and not", antes)
	}
	if got, code := impl.BlindsOf(table); !slices.Equal(got, blinds) || code != impl.ErrNone {
		t.Error("BlindsOf of", table, "is", got, code, "and not", blinds)
	}
}

// seatsAs are all seats from a seat on, as digits that are written one behind the other.
func seatsAs(seats, from int64) []int64 {
	digits := "012345"[:seats]
	var list []int64
	for _, digit := range strings.Split(digits[from:]+digits[:from], "") {
		list = append(list, int64(digit[0]-'0'))
	}
	return list
}

func TestTableConstants(t *testing.T) {
	if impl.LimitNone != 0 || impl.LimitPot != 1 || impl.LimitFixed != 2 || impl.MaxSeats != 6 || impl.MaxStack != 100000 {
		t.Error("the constants are", int64(impl.LimitNone), int64(impl.LimitPot), int64(impl.LimitFixed), int64(impl.MaxSeats), int64(impl.MaxStack))
	}
}

// Each bound of a table is tried on both of its sides, alone.
func TestBoundsOfTables(t *testing.T) {
	for _, c := range []struct {
		table impl.Table
		want  bool
	}{
		{impl.Table{}, false},
		{tableOf(nil, 0, 1, 2, 0), false},
		{tableOf([]int64{}, 0, 1, 2, 0), false},
		{tableOf([]int64{5}, 0, 1, 2, 0), false},
		{tableOf([]int64{5, 5}, 0, 1, 2, 0), true},
		{tableOf([]int64{5, 5, 5, 5, 5, 5}, 0, 1, 2, 0), true},
		{tableOf([]int64{5, 5, 5, 5, 5, 5, 5}, 0, 1, 2, 0), false},
		{tableOf([]int64{5, 5, 5, 5, 5, 5, 5}, 6, 1, 2, 0), false},
		{tableOf([]int64{1, 1}, 0, 1, 2, 0), true},
		{tableOf([]int64{0, 1}, 0, 1, 2, 0), false},
		{tableOf([]int64{1, 0}, 0, 1, 2, 0), false},
		{tableOf([]int64{1, 5, 0}, 0, 1, 2, 0), false},
		{tableOf([]int64{1, -1}, 0, 1, 2, 0), false},
		{tableOf([]int64{100000, 100000, 100000, 100000, 100000, 100000}, 5, 1, 2, 0), true},
		{tableOf([]int64{100001, 1}, 0, 1, 2, 0), false},
		{tableOf([]int64{1, 100001}, 0, 1, 2, 0), false},
		{tableOf([]int64{1, 5, 100001}, 0, 1, 2, 0), false},
		{tableOf([]int64{5, 5, 5}, -1, 1, 2, 0), false},
		{tableOf([]int64{5, 5, 5}, 2, 1, 2, 0), true},
		{tableOf([]int64{5, 5, 5}, 3, 1, 2, 0), false},
		{tableOf([]int64{5, 5}, 1, 1, 2, 0), true},
		{tableOf([]int64{5, 5}, 2, 1, 2, 0), false},
		{tableOf([]int64{5, 5}, 0, 0, 0, 0), false},
		{tableOf([]int64{5, 5}, 0, -1, 0, 0), false},
		{tableOf([]int64{5, 5}, 0, -1, -1, 0), false},
		{tableOf([]int64{5, 5}, 0, 0, 1, 0), true},
		{tableOf([]int64{5, 5}, 0, 1, 1, 0), true},
		{tableOf([]int64{5, 5}, 0, 2, 1, 0), false},
		{tableOf([]int64{5, 5}, 0, -1, 1, 0), false},
		{tableOf([]int64{5, 5}, 0, 0, 100000, 0), true},
		{tableOf([]int64{5, 5}, 0, 100000, 100000, 0), true},
		{tableOf([]int64{5, 5}, 0, 100001, 100000, 0), false},
		{tableOf([]int64{5, 5}, 0, 0, 100001, 0), false},
		{tableOf([]int64{5, 5}, 0, 100001, 100001, 0), false},
		{tableOf([]int64{5, 5}, 0, 1, 2, -1), false},
		{tableOf([]int64{5, 5}, 0, 1, 2, 5), true},
		{tableOf([]int64{5, 5}, 0, 1, 2, 6), true},
		{tableOf([]int64{5, 5}, 0, 1, 2, 100000), true},
		{tableOf([]int64{5, 5}, 0, 1, 2, 100001), false},
	} {
		if got := impl.IsTable(c.table); got != c.want {
			t.Error("IsTable of", c.table, "is", got)
		}
	}
}

func TestLimitsOfTables(t *testing.T) {
	for limit, want := range map[int64]bool{-1: false, 0: true, 1: true, 2: true, 3: false, 4: false, 1 << 32: false, math.MaxInt64: false, math.MinInt64: false} {
		for _, base := range baseTables() {
			base.Limit = limit
			if got := impl.IsTable(base); got != want {
				t.Error("IsTable of", base, "is", got)
			}
		}
	}
}

func TestIsTable(t *testing.T) {
	for _, table := range slices.Concat(smallTables(), largeTables(), baseTables(), changedTables()) {
		if got := impl.IsTable(table); got != isTableAs(table) {
			t.Error("IsTable of", table, "is", got)
		}
	}
}

// Where the blinds sit and who acts first depends on the number of seats and the button alone.
func TestBlindSeatsAndFirstSeats(t *testing.T) {
	for _, table := range slices.Concat(smallTables(), largeTables(), baseTables()) {
		row := rowOf(table)
		if small, big, code := impl.BlindSeats(table); small != row.small || big != row.big || code != impl.ErrNone {
			t.Error("BlindSeats of", table, "is", small, big, code)
		}
		for street, want := range []int64{row.first, row.later, row.later, row.later} {
			if got, code := impl.FirstSeat(table, int64(street)); got != want || code != impl.ErrNone {
				t.Error("FirstSeat of", table, "and the street", street, "is", got, code)
			}
		}
	}
}

func TestFirstSeatOfNoStreet(t *testing.T) {
	for _, table := range baseTables() {
		for _, street := range append([]int64{-1, 4, 5, 6, 8}, farNumbers...) {
			if got, code := impl.FirstSeat(table, street); got != 0 || code != impl.ErrRange {
				t.Error("FirstSeat of", table, "and the street", street, "is", got, code)
			}
		}
	}
}

func TestKnownAntesAndBlinds(t *testing.T) {
	for _, c := range []struct {
		table         impl.Table
		antes, blinds []int64
	}{
		{tableOf([]int64{100, 50, 2}, 0, 1, 2, 1), []int64{1, 1, 1}, []int64{0, 1, 1}},
		{tableOf([]int64{100, 100, 100}, 0, 1, 2, 0), []int64{0, 0, 0}, []int64{0, 1, 2}},
		{tableOf([]int64{100, 100, 100, 100, 100, 100}, 4, 5, 10, 2), []int64{2, 2, 2, 2, 2, 2}, []int64{10, 0, 0, 0, 0, 5}},
		// Of two seats, the button has the small blind.
		{tableOf([]int64{100, 100}, 0, 1, 2, 0), []int64{0, 0}, []int64{1, 2}},
		{tableOf([]int64{100, 100}, 1, 1, 2, 0), []int64{0, 0}, []int64{2, 1}},
		// Stacks less than the ante, equal to it, and one more.
		{tableOf([]int64{6, 7, 8}, 0, 1, 2, 7), []int64{6, 7, 7}, []int64{0, 0, 1}},
		{tableOf([]int64{6, 7, 8}, 1, 1, 2, 7), []int64{6, 7, 7}, []int64{0, 0, 1}},
		{tableOf([]int64{6, 7, 8}, 2, 1, 2, 7), []int64{6, 7, 7}, []int64{0, 0, 0}},
		{tableOf([]int64{8, 7}, 0, 1, 2, 7), []int64{7, 7}, []int64{1, 0}},
		{tableOf([]int64{1, 1, 1, 1}, 0, 1, 2, 100000), []int64{1, 1, 1, 1}, []int64{0, 0, 0, 0}},
		{tableOf([]int64{99999, 100000}, 0, 100000, 100000, 100000), []int64{99999, 100000}, []int64{0, 0}},
		// A blind of which a seat has one less, just as much and one more, without and behind an ante.
		{tableOf([]int64{9, 2, 4}, 0, 3, 5, 0), []int64{0, 0, 0}, []int64{0, 2, 4}},
		{tableOf([]int64{9, 3, 5}, 0, 3, 5, 0), []int64{0, 0, 0}, []int64{0, 3, 5}},
		{tableOf([]int64{9, 4, 6}, 0, 3, 5, 0), []int64{0, 0, 0}, []int64{0, 3, 5}},
		{tableOf([]int64{9, 3, 5}, 0, 3, 5, 1), []int64{1, 1, 1}, []int64{0, 2, 4}},
		{tableOf([]int64{9, 4, 6}, 0, 3, 5, 1), []int64{1, 1, 1}, []int64{0, 3, 5}},
		{tableOf([]int64{9, 5, 7}, 0, 3, 5, 1), []int64{1, 1, 1}, []int64{0, 3, 5}},
		{tableOf([]int64{2, 3}, 1, 2, 3, 1), []int64{1, 1}, []int64{1, 2}},
		// Small of 0, and of Big.
		{tableOf([]int64{9, 9, 9}, 0, 0, 5, 0), []int64{0, 0, 0}, []int64{0, 0, 5}},
		{tableOf([]int64{9, 9}, 0, 0, 5, 3), []int64{3, 3}, []int64{0, 5}},
		{tableOf([]int64{9, 9, 9}, 0, 5, 5, 0), []int64{0, 0, 0}, []int64{0, 5, 5}},
		// The greatest numbers.
		{tableOf([]int64{100000, 100000, 100000}, 2, 100000, 100000, 0), []int64{0, 0, 0}, []int64{100000, 100000, 0}},
		{tableOf([]int64{100000, 100000, 100000}, 2, 100000, 100000, 1), []int64{1, 1, 1}, []int64{99999, 99999, 0}},
		{tableOf([]int64{100000, 100000, 100000}, 2, 100000, 100000, 100000), []int64{100000, 100000, 100000}, []int64{0, 0, 0}},
		{tableOf([]int64{1, 1, 1, 1, 1, 1}, 5, 0, 1, 0), []int64{0, 0, 0, 0, 0, 0}, []int64{0, 1, 0, 0, 0, 0}},
	} {
		for limit := range int64(3) {
			c.table.Limit = limit
			expectPaid(t, c.table, c.antes, c.blinds)
		}
	}
}

func TestAntesAndBlinds(t *testing.T) {
	for _, table := range slices.Concat(smallTables(), largeTables(), baseTables()) {
		antes, blinds := paidAs(table)
		expectPaid(t, table, antes, blinds)
	}
}

// What a seat pays is never negative and never more than its stack; only the seats of the blinds bet.
func TestAntesAndBlindsNeverExceedStacks(t *testing.T) {
	for _, table := range slices.Concat(smallTables(), largeTables(), baseTables()) {
		antes, _ := impl.AntesOf(table)
		blinds, _ := impl.BlindsOf(table)
		small, big, _ := impl.BlindSeats(table)
		if len(antes) != len(table.Stacks) || len(blinds) != len(table.Stacks) || small == big {
			t.Fatal("the antes and the blinds of", table, "are", antes, blinds, small, big)
		}
		for seat, stack := range table.Stacks {
			isBlind := int64(seat) == small || int64(seat) == big
			if antes[seat] < 0 || blinds[seat] < 0 || antes[seat]+blinds[seat] > stack || !isBlind && blinds[seat] != 0 {
				t.Error("the antes and the blinds of", table, "are", antes, blinds)
			}
		}
	}
}

func TestSeatsFrom(t *testing.T) {
	for _, table := range slices.Concat(largeTables(), baseTables()) {
		seats := int64(len(table.Stacks))
		for seat := range seats {
			if got, code := impl.SeatsFrom(table, seat); !slices.Equal(got, seatsAs(seats, seat)) || code != impl.ErrNone {
				t.Error("SeatsFrom of", table, "and the seat", seat, "is", got, code)
			}
		}
		for _, seat := range append([]int64{-1, seats, seats + 1, 2 * seats, 7}, farNumbers...) {
			if got, code := impl.SeatsFrom(table, seat); len(got) != 0 || code != impl.ErrRange {
				t.Error("SeatsFrom of", table, "and the seat", seat, "is", got, code)
			}
		}
	}
}

func TestKnownSeatsFrom(t *testing.T) {
	six := tableOf([]int64{1, 2, 3, 4, 5, 6}, 3, 1, 2, 0)
	for seat, want := range [][]int64{{0, 1, 2, 3, 4, 5}, {1, 2, 3, 4, 5, 0}, {2, 3, 4, 5, 0, 1}, {3, 4, 5, 0, 1, 2}, {4, 5, 0, 1, 2, 3}, {5, 0, 1, 2, 3, 4}} {
		if got, code := impl.SeatsFrom(six, int64(seat)); !slices.Equal(got, want) || code != impl.ErrNone {
			t.Error("SeatsFrom of the seat", seat, "is", got, code)
		}
	}
	two := tableOf([]int64{1, 2}, 1, 1, 2, 0)
	for seat, want := range [][]int64{{0, 1}, {1, 0}} {
		if got, code := impl.SeatsFrom(two, int64(seat)); !slices.Equal(got, want) || code != impl.ErrNone {
			t.Error("SeatsFrom of the seat", seat, "is", got, code)
		}
	}
}

func TestChipsAt(t *testing.T) {
	for _, c := range []struct {
		stacks []int64
		want   int64
	}{
		{[]int64{100, 50, 2}, 152},
		{[]int64{1, 1}, 2},
		{[]int64{1, 2, 4, 8, 16, 32}, 63},
		{[]int64{100000, 100000}, 200000},
		{[]int64{100000, 100000, 100000, 100000, 100000, 100000}, 600000},
	} {
		if got, code := impl.ChipsAt(tableOf(c.stacks, 1, 1, 2, 3)); got != c.want || code != impl.ErrNone {
			t.Error("ChipsAt of", c.stacks, "is", got, code)
		}
	}
	for _, table := range slices.Concat(smallTables(), largeTables(), baseTables()) {
		if got, code := impl.ChipsAt(table); got != sumOf(table.Stacks) || code != impl.ErrNone {
			t.Error("ChipsAt of", table, "is", got, code)
		}
	}
}

func TestKnownNextTables(t *testing.T) {
	four := []int64{10, 20, 30, 40}
	for _, c := range []struct {
		old        []int64
		button     int64
		stacks     []int64
		want       []int64
		wantButton int64
	}{
		{[]int64{100, 50, 2}, 0, []int64{0, 150, 2}, []int64{150, 2}, 0},
		// Nobody is left out: the button goes one seat on.
		{[]int64{5, 5}, 0, []int64{4, 6}, []int64{4, 6}, 1},
		{[]int64{5, 5}, 1, []int64{4, 6}, []int64{4, 6}, 0},
		{four, 0, four, four, 1},
		{four, 2, four, four, 3},
		{four, 3, four, four, 0},
		// A seat before the button, the one behind it, and one farther on.
		{four, 1, []int64{0, 1, 1, 9}, []int64{1, 1, 9}, 1},
		{four, 2, []int64{0, 1, 2, 9}, []int64{1, 2, 9}, 2},
		{four, 3, []int64{0, 1, 2, 9}, []int64{1, 2, 9}, 0},
		{four, 3, []int64{8, 0, 2, 9}, []int64{8, 2, 9}, 0},
		{four, 0, []int64{8, 0, 2, 9}, []int64{8, 2, 9}, 1},
		{four, 1, []int64{8, 3, 0, 9}, []int64{8, 3, 9}, 2},
		{four, 2, []int64{8, 3, 5, 0}, []int64{8, 3, 5}, 0},
		{four, 0, []int64{8, 3, 0, 9}, []int64{8, 3, 9}, 1},
		// The seat of the button itself.
		{four, 0, []int64{0, 7, 8, 9}, []int64{7, 8, 9}, 0},
		{four, 1, []int64{6, 0, 8, 9}, []int64{6, 8, 9}, 1},
		{four, 2, []int64{6, 7, 0, 9}, []int64{6, 7, 9}, 2},
		{four, 3, []int64{6, 7, 8, 0}, []int64{6, 7, 8}, 0},
		// All but two.
		{four, 1, []int64{6, 7, 0, 0}, []int64{6, 7}, 0},
		{four, 0, []int64{6, 7, 0, 0}, []int64{6, 7}, 1},
		{four, 2, []int64{6, 7, 0, 0}, []int64{6, 7}, 0},
		{four, 2, []int64{0, 7, 0, 9}, []int64{7, 9}, 1},
		{four, 0, []int64{1, 0, 0, 9}, []int64{1, 9}, 1},
		{four, 3, []int64{1, 0, 0, 9}, []int64{1, 9}, 0},
		{[]int64{1, 1, 1, 1, 1, 1}, 5, []int64{0, 0, 0, 0, 2, 4}, []int64{2, 4}, 0},
		{[]int64{1, 1, 1, 1, 1, 1}, 4, []int64{0, 0, 0, 0, 2, 4}, []int64{2, 4}, 1},
		{[]int64{1, 1, 1, 1, 1, 1}, 4, []int64{100000, 0, 0, 0, 100000, 0}, []int64{100000, 100000}, 0},
	} {
		table := tableOf(c.old, c.button, 1, 2, 3)
		got, code := impl.NextTable(table, c.stacks)
		if want := tableOf(c.want, c.wantButton, 1, 2, 3); !sameTable(got, want) || code != impl.ErrNone {
			t.Error("NextTable of", table, c.stacks, "is", got, code, "and not", want)
		}
	}
}

// stacksLeft are stacks that are all different, of which those are 0 whose bits are not in a number.
func stacksLeft(seats, remain int64) []int64 {
	stacks := []int64{60, 1, 100000, 30, 7, 5000}[:seats]
	for seat := range seats {
		stacks[seat] *= remain >> seat & 1
	}
	return stacks
}

// All choices of seats that remain, with each number of seats and each button.
func TestNextTable(t *testing.T) {
	for _, base := range baseTables() {
		seats := int64(len(base.Stacks))
		for remain := range int64(1) << seats {
			stacks := stacksLeft(seats, remain)
			got, code := impl.NextTable(base, stacks)
			want := base
			want.Stacks = slices.DeleteFunc(slices.Clone(stacks), func(stack int64) bool { return stack == 0 })
			if len(want.Stacks) < 2 {
				if !isZeroTable(got) || code != impl.ErrState {
					t.Error("NextTable of", base, stacks, "is", got, code)
				}
				continue
			}
			// Going around to the left of the button, the first stack that is not 0 is that of the new one.
			around := append(slices.Clone(stacks[base.Button+1:]), stacks[:base.Button+1]...)
			first := slices.IndexFunc(around, func(stack int64) bool { return stack > 0 })
			want.Button = int64(slices.Index(want.Stacks, around[first]))
			if !sameTable(got, want) || code != impl.ErrNone || !impl.IsTable(got) {
				t.Error("NextTable of", base, stacks, "is", got, code, "and not", want)
			}
			if chips, _ := impl.ChipsAt(got); chips != sumOf(stacks) {
				t.Error("NextTable of", base, stacks, "has", chips, "chips")
			}
		}
	}
}

// The blinds, the ante and the limit stay as they are, whatever the stacks are.
func TestNextTableKeepsStakes(t *testing.T) {
	for _, table := range largeTables() {
		for _, stack := range []int64{1, 2, 100000} {
			stacks := slices.Repeat([]int64{stack}, len(table.Stacks))
			want := table
			want.Stacks = stacks
			want.Button = seatsAs(int64(len(stacks)), table.Button)[1]
			if got, code := impl.NextTable(table, stacks); !sameTable(got, want) || code != impl.ErrNone {
				t.Error("NextTable of", table, stacks, "is", got, code, "and not", want)
			}
		}
	}
}

// Playing on until two seats are left, the chips stay the same, and each table is valid.
func TestTablesInARow(t *testing.T) {
	source := rand.New(rand.NewSource(99))
	for range 300 {
		table := tableOf([]int64{9, 4, 1, 7, 3, 6}, source.Int63n(6), 1, 2, 1)
		for len(table.Stacks) > 2 {
			stacks := slices.Clone(table.Stacks)
			loser, winner := source.Intn(len(stacks)), source.Intn(len(stacks))
			lost := 1 + source.Int63n(stacks[loser])
			stacks[loser] -= lost
			stacks[winner] += lost
			next, code := impl.NextTable(table, stacks)
			if chips, _ := impl.ChipsAt(next); chips != 30 || code != impl.ErrNone || !isTableAs(next) {
				t.Fatal("NextTable of", table, stacks, "is", next, code)
			}
			table = next
		}
	}
}

// wrongStacks are lists that are too short or too long for a number of seats, or have numbers of chips
// that there cannot be, whether two seats would remain or not.
func wrongStacks(seats int) [][]int64 {
	lists := [][]int64{nil, {}}
	for _, rest := range []int64{0, 1, 5, 100000} {
		for length := range 14 {
			if length != seats {
				lists = append(lists, slices.Repeat([]int64{rest}, length))
			}
		}
		for _, wrong := range append([]int64{-1, 100001}, farNumbers...) {
			for seat := range seats {
				stacks := slices.Repeat([]int64{rest}, seats)
				stacks[seat] = wrong
				lists = append(lists, stacks)
			}
			lists = append(lists, slices.Repeat([]int64{wrong}, seats), []int64{wrong})
		}
	}
	return lists
}

func TestNextTableRejectsStacks(t *testing.T) {
	for _, table := range baseTables() {
		for _, stacks := range wrongStacks(len(table.Stacks)) {
			if got, code := impl.NextTable(table, stacks); !isZeroTable(got) || code != impl.ErrRange {
				t.Error("NextTable of", table, stacks, "is", got, code)
			}
		}
	}
}

// The error of wrong stacks comes before that of too few seats.
func TestFirstErrorOfNextTable(t *testing.T) {
	table := tableOf([]int64{5, 5, 5}, 1, 1, 2, 0)
	for _, c := range []struct {
		stacks []int64
		want   int64
	}{
		{[]int64{0, 0, 0}, impl.ErrState},
		{[]int64{0, 15, 0}, impl.ErrState},
		{[]int64{0, 100000, 0}, impl.ErrState},
		{[]int64{0, 14, 1}, impl.ErrNone},
		{[]int64{0, 0, 100001}, impl.ErrRange},
		{[]int64{100001, 0, 0}, impl.ErrRange},
		{[]int64{-1, 0, 0}, impl.ErrRange},
		{[]int64{0, 16, -1}, impl.ErrRange},
		{[]int64{-1, 8, 8}, impl.ErrRange},
		{[]int64{8, 8, 100001}, impl.ErrRange},
		{[]int64{0, 15}, impl.ErrRange},
		{[]int64{7, 8}, impl.ErrRange},
		{[]int64{0, 15, 0, 0}, impl.ErrRange},
		{[]int64{5, 5, 5, 0}, impl.ErrRange},
		{[]int64{0}, impl.ErrRange},
		{nil, impl.ErrRange},
	} {
		if got, code := impl.NextTable(table, c.stacks); code != c.want || code != impl.ErrNone && !isZeroTable(got) {
			t.Error("NextTable of", c.stacks, "is", got, code)
		}
	}
}

// tableCalls are all functions with a table; each returns what it gives as one list, and the error.
func tableCalls(number int64, stacks []int64) map[string]func(impl.Table) ([]int64, int64) {
	return map[string]func(impl.Table) ([]int64, int64){
		"BlindSeats": func(table impl.Table) ([]int64, int64) {
			small, big, code := impl.BlindSeats(table)
			return []int64{small, big}, code
		},
		"AntesOf":   impl.AntesOf,
		"BlindsOf":  impl.BlindsOf,
		"SeatsFrom": func(table impl.Table) ([]int64, int64) { return impl.SeatsFrom(table, number) },
		"FirstSeat": func(table impl.Table) ([]int64, int64) {
			seat, code := impl.FirstSeat(table, number)
			return []int64{seat}, code
		},
		"NextTable": func(table impl.Table) ([]int64, int64) {
			next, code := impl.NextTable(table, stacks)
			return append(next.Stacks, next.Button, next.Small, next.Big, next.Ante, next.Limit), code
		},
		"ChipsAt": func(table impl.Table) ([]int64, int64) {
			chips, code := impl.ChipsAt(table)
			return []int64{chips}, code
		},
	}
}

// zeroLengths are the lengths of the lists that tableCalls return for the zero value.
var zeroLengths = map[string]int{"BlindSeats": 2, "AntesOf": 0, "BlindsOf": 0, "SeatsFrom": 0, "FirstSeat": 1, "NextTable": 5, "ChipsAt": 1}

// The error of a table that is not valid comes first, whatever the other arguments are.
func TestFunctionsOfInvalidTables(t *testing.T) {
	for _, table := range invalidTables() {
		for _, number := range []int64{0, 1, -1, 4, 7} {
			for _, stacks := range [][]int64{table.Stacks, nil, {5, 5}, {0, 0, 0}, {-1, 5}, {100001, 5}} {
				for name, call := range tableCalls(number, stacks) {
					got, code := call(table)
					if len(got) != zeroLengths[name] || sumOf(got) != 0 || slices.ContainsFunc(got, func(n int64) bool { return n != 0 }) || code != impl.ErrInvalid {
						t.Fatal(name, "of", table, number, stacks, "is", got, code)
					}
				}
			}
		}
	}
}

func TestTableArgumentsStay(t *testing.T) {
	for _, table := range slices.Concat(baseTables(), invalidTables()) {
		if len(table.Stacks) > 8 {
			continue
		}
		same := copyOfTable(table)
		table.Stacks = guarded(table.Stacks)
		for _, stacks := range [][]int64{same.Stacks, {0, 7, 0, 9}, {5, 5, 0}, {0, 5, 5}, {1, 0, 0, 0, 0, 3}, {-1, 0}, nil} {
			kept := guarded(stacks)
			for name, call := range tableCalls(1, kept) {
				call(table)
				impl.IsTable(table)
				if !sameAsGuarded(table.Stacks, same.Stacks) || !sameAsGuarded(kept, stacks) {
					t.Fatal(name, "of", same, stacks, "has changed them to", table.Stacks, kept)
				}
			}
		}
	}
}

func TestTableResultsAreNew(t *testing.T) {
	for _, table := range baseTables() {
		same := copyOfTable(table)
		table.Stacks = guarded(table.Stacks)
		seats := int64(len(table.Stacks))
		for _, stacks := range [][]int64{same.Stacks, stacksLeft(seats, 3), stacksLeft(seats, 1<<seats-1), stacksLeft(seats, 3<<(seats-2))} {
			kept := guarded(stacks)
			calls := tableCalls(seats-1, kept)
			calls["NextTable"] = func(table impl.Table) ([]int64, int64) {
				next, code := impl.NextTable(table, kept)
				return next.Stacks, code
			}
			calls["NextTable of the same stacks"] = func(table impl.Table) ([]int64, int64) {
				next, code := impl.NextTable(table, table.Stacks)
				return next.Stacks, code
			}
			for name, call := range calls {
				list := func() []int64 { got, _ := call(table); return got }
				if !givesNewLists(list) || !sameAsGuarded(table.Stacks, same.Stacks) || !sameAsGuarded(kept, stacks) {
					t.Fatal(name, "of", same, stacks, "shares memory")
				}
			}
		}
	}
}
