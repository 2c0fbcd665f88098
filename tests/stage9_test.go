package tests

import (
	"math"
	"slices"
	"strings"
	"testing"

	"loop.example/smallmachines/impl"
)

// guesses is all that the functions of chapter 9 are to return for a row of jumps: still for no and yes, counts by bits and by what they begin from, and the others by size.
type guesses struct {
	still              [2]int
	counts             [3][]int
	past, choose, best [5]int
}

// signsOf returns a sign for each jump: j if it is made.
func signsOf(jumps []bool) string {
	signs := make([]byte, len(jumps))
	for i, jumped := range jumps {
		signs[i] = "-j"[map[bool]int{false: 0, true: 1}[jumped]]
	}
	return string(signs)
}

// rightsBy keeps the marks of a counter, from so many on, one put to it or taken away for each jump, and returns whether each one is as they tell.
func rightsBy(signs string, bits, from int) []bool {
	half := []int{0, 1, 2, 4}[bits]
	marks := strings.Repeat("x", from)
	var rights []bool
	for _, sign := range signs {
		rights = append(rights, strings.HasPrefix(marks, strings.Repeat("x", half)) == (sign == 'j'))
		switch {
		case sign == '-':
			marks = strings.TrimSuffix(marks, "x")
		case len(marks) < half+half-1:
			marks += "x"
		}
	}
	return rights
}

// wrongsIn counts those that are not right.
func wrongsIn(rights []bool) int {
	return strings.Count(signsOf(rights), "-")
}

// sortedByPast returns the indices of jumps by the signs of the last ones ahead of each.
func sortedByPast(signs string, size int) map[string][]int {
	all := strings.Repeat("-", size) + signs
	places := map[string][]int{}
	for i := range signs {
		places[all[i:i+size]] = append(places[all[i:i+size]], i)
	}
	return places
}

// signsAt returns the signs at some indices.
func signsAt(signs string, places []int) string {
	var some strings.Builder
	for _, i := range places {
		some.WriteByte(signs[i])
	}
	return some.String()
}

// pastBy takes the jumps behind each past as a row of their own, guessed by one counter.
func pastBy(signs string, size int) []bool {
	rights := make([]bool, len(signs))
	for _, places := range sortedByPast(signs, size) {
		for n, right := range rightsBy(signsAt(signs, places), 2, 1) {
			rights[places[n]] = right
		}
	}
	return rights
}

// chooseBy counts where both are wrong, and has a counter guess, of those where one is right, whether the second one is.
func chooseBy(first, second []bool) int {
	var differ []bool
	misses := 0
	for i := range first {
		switch {
		case first[i] != second[i]:
			differ = append(differ, second[i])
		case !first[i]:
			misses++
		}
	}
	return misses + wrongsIn(rightsBy(signsOf(differ), 2, 1))
}

// bestTableBy gives each past the guess that is wrong less often.
func bestTableBy(signs string, size int) int {
	misses := 0
	for _, places := range sortedByPast(signs, size) {
		made := strings.Count(signsAt(signs, places), "j")
		misses += min(made, len(places)-made)
	}
	return misses
}

// guessesBy works out all here.
func guessesBy(jumps []bool) guesses {
	signs := signsOf(jumps)
	g := guesses{still: [2]int{strings.Count(signs, "j"), strings.Count(signs, "-")}}
	for bits := 1; bits <= 3; bits++ {
		for from := range []int{0, 2, 4, 8}[bits] {
			g.counts[bits-1] = append(g.counts[bits-1], wrongsIn(rightsBy(signs, bits, from)))
		}
	}
	first := pastBy(signs, 0)
	for size := range 5 {
		second := pastBy(signs, size)
		g.past[size] = wrongsIn(second)
		g.choose[size] = chooseBy(first, second)
		g.best[size] = bestTableBy(signs, size)
	}
	return g
}

// guessesOf returns all that the functions of chapter 9 return for a row of jumps.
func guessesOf(jumps []bool) guesses {
	g := guesses{still: [2]int{impl.StillMisses(jumps, false), impl.StillMisses(jumps, true)}}
	for bits := 1; bits <= 3; bits++ {
		for from := range 1 << bits {
			g.counts[bits-1] = append(g.counts[bits-1], impl.CountMisses(jumps, bits, from))
		}
	}
	for size := range 5 {
		g.past[size] = impl.PastMisses(jumps, size)
		g.choose[size] = impl.ChooseMisses(jumps, size)
		g.best[size] = impl.BestTable(jumps, size)
	}
	return g
}

func checkGuesses(t *testing.T, jumps []bool, want guesses) {
	t.Helper()
	got := guessesOf(jumps)
	name := signsOf(jumps)
	if got.still != want.still {
		t.Fatalf("StillMisses of %q = %v, not %v", name, got.still, want.still)
	}
	for i := range want.counts {
		if !slices.Equal(got.counts[i], want.counts[i]) {
			t.Fatalf("CountMisses of %q, %d bits = %v, not %v", name, i+1, got.counts[i], want.counts[i])
		}
	}
	if got.past != want.past {
		t.Fatalf("PastMisses of %q = %v, not %v", name, got.past, want.past)
	}
	if got.choose != want.choose {
		t.Fatalf("ChooseMisses of %q = %v, not %v", name, got.choose, want.choose)
	}
	if got.best != want.best {
		t.Fatalf("BestTable of %q = %v, not %v", name, got.best, want.best)
	}
}

// someRows returns rows of jumps of all sizes: more or less often made, the same again and again, but for some, and those of programs.
func someRows(t *testing.T) [][]bool {
	g := lcg(90)
	var rows [][]bool
	for size := 0; size <= 300; size += 1 + size/20 {
		for _, one := range []int{1, 2, 3, 9, 1000} {
			rows = append(rows, someJumps(&g, size, one))
		}
		for _, period := range []int{2, 3, 4, 5, 6, 9} {
			part := someJumps(&g, period, 2)
			row := slices.Repeat(part, size/period+1)[:size]
			rows = append(rows, row)
			other := slices.Clone(row)
			for i := range other {
				other[i] = other[i] != (g.below(10) == 0)
			}
			rows = append(rows, other)
		}
	}
	for i, j := range walks(t) {
		if i%10 == 0 {
			rows = append(rows, impl.JumpsOf(j.code, j.m, 300))
		}
	}
	return rows
}

// shortRows does something with all rows of at most so many jumps.
func shortRows(longest int, do func(jumps []bool)) {
	for size := range longest + 1 {
		for _, jumps := range jumpsAll(size) {
			do(jumps)
		}
	}
}

// eachRow does something with all short rows of jumps, and some of all sizes.
func eachRow(t *testing.T, do func(jumps []bool)) {
	shortRows(11, do)
	for _, jumps := range someRows(t) {
		do(jumps)
	}
}

// All of chapter 9 as worked out here.
func TestGuessesOfAllKinds(t *testing.T) {
	check := func(jumps []bool) { checkGuesses(t, jumps, guessesBy(jumps)) }
	eachRow(t, check)
	if impl.MaxBits != 3 || impl.MaxPast != 4 {
		t.Errorf("MaxBits = %d, MaxPast = %d", impl.MaxBits, impl.MaxPast)
	}
}

// P60: StillMisses of both guesses are together all.
func TestOneGuessOrTheOtherIsRight(t *testing.T) {
	check := func(jumps []bool) {
		no, yes := impl.StillMisses(jumps, false), impl.StillMisses(jumps, true)
		if no < 0 || yes < 0 || no+yes != len(jumps) {
			t.Fatalf("StillMisses of %q = %d, %d", signsOf(jumps), no, yes)
		}
	}
	eachRow(t, check)
}

// P61: CountMisses are at most twice StillMisses of either guess, and half of 2 to the power bits.
func TestCountersAreNotMuchWorseThanOneGuess(t *testing.T) {
	check := func(jumps []bool) {
		fewer := min(impl.StillMisses(jumps, false), impl.StillMisses(jumps, true))
		for bits := 1; bits <= 3; bits++ {
			for from := range 1 << bits {
				misses := impl.CountMisses(jumps, bits, from)
				if misses < 0 || misses > 2*fewer+1<<bits/2 || misses > len(jumps) {
					t.Fatalf("CountMisses of %q, %d, %d = %d", signsOf(jumps), bits, from, misses)
				}
			}
		}
	}
	eachRow(t, check)
	// As many as that may be, from either end.
	for bits := 1; bits <= 3; bits++ {
		half := 1 << bits / 2
		if n := impl.CountMisses(slices.Repeat([]bool{true}, 300), bits, 0); n != half {
			t.Errorf("CountMisses of jumps alone, %d bits = %d", bits, n)
		}
		if n := impl.CountMisses(make([]bool, 300), bits, 2*half-1); n != half {
			t.Errorf("CountMisses of no jump, %d bits = %d", bits, n)
		}
	}
}

// P62: PastMisses are at most twice BestTable, and 2 to the power size; and of size 0 they are CountMisses of 2 bits.
func TestCountersAreNotMuchWorseThanTheBestTable(t *testing.T) {
	check := func(jumps []bool) {
		for size := range 5 {
			misses := impl.PastMisses(jumps, size)
			if misses < 0 || misses > 2*impl.BestTable(jumps, size)+1<<size {
				t.Fatalf("PastMisses of %q, %d = %d", signsOf(jumps), size, misses)
			}
		}
		if n, want := impl.PastMisses(jumps, 0), impl.CountMisses(jumps, 2, 1); n != want {
			t.Fatalf("PastMisses of %q, 0 = %d, not %d", signsOf(jumps), n, want)
		}
	}
	eachRow(t, check)
}

// P63: ChooseMisses are at most twice the fewer ones of both, and 2; by size 0 both are the same.
func TestTheBetterOneOfTwoIsNotMuchWorse(t *testing.T) {
	check := func(jumps []bool) {
		for size := range 5 {
			first, second := impl.PastMisses(jumps, 0), impl.PastMisses(jumps, size)
			misses := impl.ChooseMisses(jumps, size)
			if misses < 0 || misses > 2*min(first, second)+2 || misses > first+second {
				t.Fatalf("ChooseMisses of %q, %d = %d of %d and %d", signsOf(jumps), size, misses, first, second)
			}
			if size == 0 && misses != first {
				t.Fatalf("ChooseMisses of %q, 0 = %d, not %d", signsOf(jumps), misses, first)
			}
		}
	}
	eachRow(t, check)
}

// P64: BestTable of one more is no more, and of 0 it is the fewer ones of StillMisses.
func TestTablesThatLookBackFurtherAreNoWorse(t *testing.T) {
	check := func(jumps []bool) {
		least := min(impl.StillMisses(jumps, false), impl.StillMisses(jumps, true))
		for size := range 5 {
			misses := impl.BestTable(jumps, size)
			if misses < 0 || misses > least || size == 0 && misses != least {
				t.Fatalf("BestTable of %q, %d = %d, but %d of fewer", signsOf(jumps), size, misses, least)
			}
			least = misses
		}
	}
	eachRow(t, check)
}

// leastByTables tries all tables, each one a sign for each way that the last ones went.
func leastByTables(signs string, size int) int {
	ways := jumpsAll(size)
	places := sortedByPast(signs, size)
	// What each sign of the table costs is counted ahead, as there are many tables.
	costs := make([][2]int, len(ways))
	for i, way := range ways {
		some := signsAt(signs, places[signsOf(way)])
		costs[i] = [2]int{strings.Count(some, "j"), strings.Count(some, "-")}
	}
	least := math.MaxInt
	for table := range 1 << len(ways) {
		misses := 0
		for i := range ways {
			misses += costs[i][table>>i&1]
		}
		least = min(least, misses)
	}
	return least
}

// No table is better than BestTable, and one is as good.
func TestAllTables(t *testing.T) {
	check := func(jumps []bool, size int) {
		if n, want := impl.BestTable(jumps, size), leastByTables(signsOf(jumps), size); n != want {
			t.Fatalf("BestTable of %q, %d = %d, not %d", signsOf(jumps), size, n, want)
		}
	}
	shortRows(8, func(jumps []bool) {
		for size := range 4 {
			check(jumps, size)
		}
	})
	for i, jumps := range someRows(t) {
		if i%100 == 0 {
			check(jumps, i/100%5)
		}
	}
}

// Counters worked out by hand: they guess from their upper half on, and stay between 0 and the greatest.
func TestCountersByHand(t *testing.T) {
	for _, row := range []struct {
		signs      string
		bits, from int
		want       int
	}{
		{"j", 1, 0, 1}, {"j", 1, 1, 0}, {"-", 1, 0, 0}, {"-", 1, 1, 1},
		{"j", 2, 1, 1}, {"j", 2, 2, 0}, {"-", 2, 1, 0}, {"-", 2, 2, 1},
		{"j", 3, 3, 1}, {"j", 3, 4, 0}, {"-", 3, 3, 0}, {"-", 3, 4, 1},
		{"j-j-j-", 1, 0, 6}, {"j-j-j-", 1, 1, 5}, {"-j-j-j", 1, 0, 5},
		{"j-j-j-", 2, 0, 3}, {"j-j-j-", 2, 1, 6}, {"j-j-j-", 2, 2, 3}, {"j-j-j-", 2, 3, 3},
		{"jjjjjjjj-----", 2, 0, 4}, {"-----jjjjj", 2, 3, 4}, {"jjj---", 2, 3, 2}, {"---jjj", 2, 0, 2},
		{"jjjjjjjjjjjj-----", 3, 0, 8}, {"------------jjjjj", 3, 7, 8}, {"j----", 3, 7, 4}, {"-jjjj", 3, 0, 4},
		{"jj-jj-", 2, 1, 3}, {"jj-jj-", 1, 0, 4}, {"jj-jj-", 3, 3, 3},
	} {
		if n := impl.CountMisses(jumpsBy(row.signs), row.bits, row.from); n != row.want {
			t.Errorf("CountMisses(%q, %d, %d) = %d, not %d", row.signs, row.bits, row.from, n, row.want)
		}
	}
}

// Pasts worked out by hand: those that come again, those that are too long for less, and what the better one of two makes of them.
func TestPastsByHand(t *testing.T) {
	for _, row := range []struct {
		signs              string
		size               int
		past, choose, best int
	}{
		{"j-j-j-", 0, 6, 6, 3}, {"j-j-j-", 1, 1, 2, 0}, {"j-j-j-", 2, 2, 3, 0},
		{"jj-jj-", 0, 3, 3, 2}, {"jj-jj-", 1, 5, 3, 2}, {"jj-jj-", 2, 3, 3, 0},
		{"j----j----j----", 3, 6, 5, 3}, {"j----j----j----", 4, 1, 2, 0},
		{"jjjj----", 0, 3, 3, 4}, {"jjjj----", 1, 4, 3, 2}, {"jjjj----", 4, 4, 3, 0},
	} {
		jumps := jumpsBy(row.signs)
		if n := impl.PastMisses(jumps, row.size); n != row.past {
			t.Errorf("PastMisses(%q, %d) = %d, not %d", row.signs, row.size, n, row.past)
		}
		if n := impl.ChooseMisses(jumps, row.size); n != row.choose {
			t.Errorf("ChooseMisses(%q, %d) = %d, not %d", row.signs, row.size, n, row.choose)
		}
		if n := impl.BestTable(jumps, row.size); n != row.best {
			t.Errorf("BestTable(%q, %d) = %d, not %d", row.signs, row.size, n, row.best)
		}
	}
}

// Ahead of the first one, as many as are looked back at did not jump: the first ones have a past with those that did not, later on.
func TestNoneAheadOfTheFirst(t *testing.T) {
	for size := 1; size <= 4; size++ {
		none := make([]bool, size)
		// All have the past in which none jumped, and the last one goes the other way.
		other := append(slices.Clone(none), true)
		if n := impl.BestTable(other, size); n != 1 {
			t.Errorf("BestTable of %q, %d = %d", signsOf(other), size, n)
		}
		if n := impl.PastMisses(other, size); n != 1 {
			t.Errorf("PastMisses of %q, %d = %d", signsOf(other), size, n)
		}
		// The first one has it, and then just the one behind as many that did not jump.
		again := append(append([]bool{true}, none...), true)
		if n := impl.BestTable(again, size); n != 0 {
			t.Errorf("BestTable of %q, %d = %d", signsOf(again), size, n)
		}
		if n := impl.PastMisses(again, size); n != 1 {
			t.Errorf("PastMisses of %q, %d = %d", signsOf(again), size, n)
		}
		again[size+1] = false
		if n := impl.BestTable(again, size); n != 1 {
			t.Errorf("BestTable of %q, %d = %d", signsOf(again), size, n)
		}
		// Each one of the first has a past of its own, up to those in which all jumped.
		all := slices.Repeat([]bool{true}, size+5)
		if n := impl.PastMisses(all, size); n != size+1 {
			t.Errorf("PastMisses of %q, %d = %d", signsOf(all), size, n)
		}
	}
}

// Without jumps nothing is guessed wrongly.
func TestGuessesWithoutJumps(t *testing.T) {
	none := guesses{counts: [3][]int{make([]int, 2), make([]int, 4), make([]int, 8)}}
	for _, jumps := range [][]bool{nil, {}, make([]bool, 0, 3)} {
		checkGuesses(t, jumps, none)
	}
}

// Jumps of one kind are guessed wrongly until they are known.
func TestGuessesOfOneKind(t *testing.T) {
	for n := range 301 {
		no, yes := make([]bool, n), slices.Repeat([]bool{true}, n)
		wantNo, wantYes := guesses{still: [2]int{0, n}}, guesses{still: [2]int{n, 0}}
		for bits := 1; bits <= 3; bits++ {
			half := 1 << bits / 2
			for from := range 2 * half {
				wantNo.counts[bits-1] = append(wantNo.counts[bits-1], min(n, max(0, from-half+1)))
				wantYes.counts[bits-1] = append(wantYes.counts[bits-1], min(n, max(0, half-from)))
			}
		}
		for size := range 5 {
			wantYes.past[size] = min(n, size+1)
			wantYes.choose[size] = min(n, 1)
		}
		checkGuesses(t, no, wantNo)
		checkGuesses(t, yes, wantYes)
	}
}

// Too many jumps are not guessed, by anything.
func TestTooManyJumps(t *testing.T) {
	for _, n := range []int{301, 302, 1000} {
		for _, jumps := range [][]bool{make([]bool, n), slices.Repeat([]bool{true}, n)} {
			g := guessesOf(jumps)
			all := slices.Concat(g.still[:], g.counts[0], g.counts[1], g.counts[2], g.past[:], g.choose[:], g.best[:])
			if len(all) != 31 || slices.ContainsFunc(all, func(misses int) bool { return misses != -1 }) {
				t.Errorf("%d jumps are guessed: %v", n, g)
			}
		}
	}
}

// Counters of too few or too many bits, or from what they cannot be, and pasts that are too short or too long guess nothing, also where there is nothing to guess.
func TestNoGuesses(t *testing.T) {
	for _, jumps := range [][]bool{nil, {}, {true}, jumpsBy("j-jj--j"), make([]bool, 300), make([]bool, 301)} {
		for _, bits := range []int{math.MinInt, -1, 0, 4, 5, 62, 63, 64, math.MaxInt} {
			for _, from := range []int{math.MinInt, -1, 0, 1, 3, 7, 8, 15, math.MaxInt} {
				if n := impl.CountMisses(jumps, bits, from); n != -1 {
					t.Errorf("CountMisses of %d jumps, %d, %d = %d", len(jumps), bits, from, n)
				}
			}
		}
		for bits := 1; bits <= 3; bits++ {
			for _, from := range []int{math.MinInt, -2, -1, 1 << bits, 1<<bits + 1, 8, math.MaxInt} {
				if n := impl.CountMisses(jumps, bits, from); n != -1 {
					t.Errorf("CountMisses of %d jumps, %d, %d = %d", len(jumps), bits, from, n)
				}
			}
		}
		for _, size := range []int{math.MinInt, -2, -1, 5, 6, 63, 64, math.MaxInt} {
			past, choose, best := impl.PastMisses(jumps, size), impl.ChooseMisses(jumps, size), impl.BestTable(jumps, size)
			if past != -1 || choose != -1 || best != -1 {
				t.Errorf("%d jumps are guessed by the last %d: %d, %d, %d", len(jumps), size, past, choose, best)
			}
		}
	}
}

// Jumps that are given stay as they are, and nothing is left from one call to the next.
func TestGuessesOfTheirOwn(t *testing.T) {
	jumps := jumpsBy("jj-j--jjj-j-----jj-j")
	given := jumps[:15]
	before := slices.Clone(jumps)
	want := guessesBy(given)
	for range 3 {
		checkGuesses(t, given, want)
		guessesOf(slices.Repeat([]bool{true}, 300))
	}
	if !slices.Equal(jumps, before) {
		t.Errorf("the jumps that were given are now %v", jumps)
	}
}
