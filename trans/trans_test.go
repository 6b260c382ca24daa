package trans_test

import (
	"math"
	"math/rand"
	"slices"
	"testing"

	"trefoil/api"
	"trefoil/bits"
	"trefoil/trans"
)

const (
	top  = math.MaxUint64
	most = 64 * api.MaxWords // bits of a Vec
)

// sizes are the edges of bytes, words and blocks, and others.
var sizes = []int{0, 1, 2, 3, 7, 8, 9, 15, 16, 17, 31, 33, 63, 64, 65, 100, 127, 128, 129, 191, 192, 193, 200, 511, 512, 513, 1000, 4095, 4096}

func anyRows(r *rand.Rand, n int) []api.Row {
	l := make([]api.Row, n)
	for j := range l {
		l[j] = api.Row{r.Uint64(), r.Uint64()}
	}
	return l
}

// anyCols draws so many columns of n bits each.
func anyCols(t *testing.T, r *rand.Rand, count, n int) []bits.Vec {
	t.Helper()
	l := make([]bits.Vec, count)
	for i := range l {
		words := make([]uint64, (n+63)/64)
		for k := range words {
			words[k] = r.Uint64()
		}
		v, code := bits.Words(n, words)
		if code != api.OK {
			t.Fatal(code)
		}
		l[i] = v
	}
	return l
}

func blank(t *testing.T, n int) bits.Vec {
	t.Helper()
	v, code := bits.New(n)
	if code != api.OK {
		t.Fatal(code)
	}
	return v
}

func rowsOf(t *testing.T, cols []bits.Vec) []api.Row {
	t.Helper()
	rows, code := trans.Rows(cols)
	if code != api.OK {
		t.Fatalf("Rows of columns of %d bits: %d", cols[0].Len(), code)
	}
	return rows
}

func colsOf(t *testing.T, rows []api.Row) []bits.Vec {
	t.Helper()
	cols, code := trans.Cols(rows)
	if code != api.OK {
		t.Fatalf("Cols of %d rows: %d", len(rows), code)
	}
	return cols
}

func packed(t *testing.T, cols []bits.Vec) string {
	t.Helper()
	s, code := trans.Pack(cols)
	if code != api.OK {
		t.Fatalf("Pack of columns of %d bits: %d", cols[0].Len(), code)
	}
	return s
}

func unpacked(t *testing.T, n int, s string) []bits.Vec {
	t.Helper()
	cols, code := trans.Unpack(n, s)
	if code != api.OK {
		t.Fatalf("Unpack of %d bits a column: %d", n, code)
	}
	return cols
}

// rowBit asks for a bit as the chapter numbers them.
func rowBit(row api.Row, i int) bool { return row[i/64]>>(i%64)%2 == 1 }

// turned holds columns against rows, bit by bit.
func turned(t *testing.T, cols []bits.Vec, rows []api.Row) {
	t.Helper()
	if len(cols) != 128 {
		t.Fatalf("there are %d columns", len(cols))
	}
	for i, col := range cols {
		if col.Len() != len(rows) {
			t.Fatalf("column %d has %d bits, and there are %d rows", i, col.Len(), len(rows))
		}
		for j, row := range rows {
			if col.Get(j) != rowBit(row, i) {
				t.Fatalf("of %d rows: bit %d of column %d is %t, bit %d of row %d isn't", len(rows), j, i, col.Get(j), i, j)
			}
		}
	}
}

func sameCols(a, b []bits.Vec) bool { return slices.EqualFunc(a, b, bits.Equal) }

// noRows, noCols and noText ask for an error, and for nothing beside it.

func noRows(t *testing.T, what string, cols []bits.Vec, want api.Errno) {
	t.Helper()
	if rows, code := trans.Rows(cols); code != want || len(rows) != 0 {
		t.Errorf("Rows of %s: %d rows, %d", what, len(rows), code)
	}
}

func noText(t *testing.T, what string, cols []bits.Vec, want api.Errno) {
	t.Helper()
	if s, code := trans.Pack(cols); code != want || s != "" {
		t.Errorf("Pack of %s: %d bytes, %d", what, len(s), code)
	}
}

func noCols(t *testing.T, n int, s string, want api.Errno) {
	t.Helper()
	if cols, code := trans.Unpack(n, s); code != want || len(cols) != 0 {
		t.Errorf("Unpack of %d bits a column in %d bytes: %d columns, %d", n, len(s), len(cols), code)
	}
}

// P16.1

func TestRowsOfSingleBits(t *testing.T) {
	for _, n := range []int{1, 64, 65, 130} {
		for i := range 128 {
			j := (i * 7) % n
			cols := make([]bits.Vec, 128)
			for k := range cols {
				cols[k] = blank(t, n)
			}
			cols[i], _ = cols[i].With(j, true)
			want := make([]api.Row, n)
			want[j][i/64] = 1 << (i % 64)
			if got := rowsOf(t, cols); !slices.Equal(got, want) {
				t.Fatalf("Rows of bit %d of column %d of %d are %x", j, i, n, got)
			}
		}
	}
}

func TestRowsOfDrawnColumns(t *testing.T) {
	r := rand.New(rand.NewSource(1))
	for _, n := range append(slices.Clone(sizes), 65535, 65536, 65537) {
		cols := anyCols(t, r, 128, n)
		turned(t, cols, rowsOf(t, cols))
	}
}

func TestRowsOfColumnsThatAreAlike(t *testing.T) {
	for _, n := range []int{1, 63, 64, 65, 128, 200} {
		ones := slices.Repeat([]bits.Vec{blank(t, n).Not()}, 128)
		for j, row := range rowsOf(t, ones) {
			if row != (api.Row{top, top}) {
				t.Fatalf("row %d of %d of ones is %x", j, n, row)
			}
		}
		for j, row := range rowsOf(t, slices.Repeat([]bits.Vec{blank(t, n)}, 128)) {
			if row != (api.Row{}) {
				t.Fatalf("row %d of %d of zeros is %x", j, n, row)
			}
		}
	}
}

// Rows knows no limit but that of a Vec.
func TestRowsAndPackOfTheLongestColumns(t *testing.T) {
	cols := slices.Repeat([]bits.Vec{blank(t, most)}, 128)
	for _, i := range []int{0, 63, 64, 127} {
		cols[i], _ = cols[i].With(most-1-i, true)
	}
	rows := rowsOf(t, cols)
	if len(rows) != most {
		t.Fatalf("there are %d rows", len(rows))
	}
	for j, row := range rows {
		var want api.Row
		switch most - 1 - j {
		case 0:
			want[0] = 1
		case 63:
			want[0] = 1 << 63
		case 64:
			want[1] = 1
		case 127:
			want[1] = 1 << 63
		}
		if row != want {
			t.Fatalf("row %d is %x", j, row)
		}
	}
	if s := packed(t, cols); len(s) != 128*most/8 || s[most/8-1] != 128 || s[128*most/8-16] != 1 {
		t.Errorf("Pack has %d bytes, or others", len(s))
	}
}

func TestRowsAndPackOfAnotherNumberOfColumns(t *testing.T) {
	r := rand.New(rand.NewSource(2))
	noRows(t, "nil", nil, api.ErrShape)
	noText(t, "nil", nil, api.ErrShape)
	for _, n := range []int{0, 1, 64, 200} {
		cols := anyCols(t, r, 257, n)
		for _, count := range []int{0, 1, 2, 63, 64, 127, 129, 192, 256, 257} {
			noRows(t, "another number", cols[:count], api.ErrShape)
			noText(t, "another number", cols[:count], api.ErrShape)
		}
		if _, code := trans.Rows(cols[:128]); code != api.OK {
			t.Errorf("Rows of 128 of them: %d", code)
		}
	}
}

func TestRowsAndPackOfUnevenColumns(t *testing.T) {
	r := rand.New(rand.NewSource(3))
	for _, c := range []struct{ n, other int }{{0, 1}, {1, 0}, {1, 2}, {5, 8}, {8, 5}, {64, 63}, {64, 65}, {65, 128}, {200, 199}, {200, 0}, {9, most}} {
		cols := anyCols(t, r, 128, c.n)
		for i := range cols {
			uneven := slices.Clone(cols)
			uneven[i] = blank(t, c.other)
			noRows(t, "an uneven column", uneven, api.ErrShape)
			noText(t, "an uneven column", uneven, api.ErrShape)
		}
	}
	cols := slices.Concat(anyCols(t, r, 64, 70), anyCols(t, r, 64, 71))
	noRows(t, "two lengths", cols, api.ErrShape)
	noText(t, "two lengths", cols, api.ErrShape)
	noRows(t, "two lengths of too few", cols[1:], api.ErrShape)
	noText(t, "two lengths of too few", cols[1:], api.ErrShape)
}

// Columns that no call made have no bits.
func TestRowsAndPackOfNoBits(t *testing.T) {
	if rows := rowsOf(t, make([]bits.Vec, 128)); len(rows) != 0 {
		t.Errorf("there are %d rows", len(rows))
	}
	if s := packed(t, make([]bits.Vec, 128)); s != "" {
		t.Errorf("there are %d bytes", len(s))
	}
}

// P16.2

func TestColsOfKnownRows(t *testing.T) {
	cols := colsOf(t, []api.Row{{1, 0}, {2, 0}, {3, 0}})
	if len(cols) != 128 {
		t.Fatalf("there are %d columns", len(cols))
	}
	for i, col := range cols {
		want := []bool{false, false, false}
		switch i {
		case 0:
			want = []bool{true, false, true}
		case 1:
			want = []bool{false, true, true}
		}
		if !slices.Equal(col.Bools(), want) {
			t.Errorf("column %d is %t", i, col.Bools())
		}
	}
	cols = colsOf(t, []api.Row{{1 << 63, 1}, {0, 1<<63 | 1}})
	for _, c := range []struct {
		i    int
		want uint64
	}{{0, 0}, {62, 0}, {63, 1}, {64, 3}, {65, 0}, {126, 0}, {127, 2}} {
		if got := cols[c.i].Raw(); len(got) != 1 || got[0] != c.want {
			t.Errorf("column %d is %x", c.i, got)
		}
	}
}

func TestColsOfSingleBits(t *testing.T) {
	for _, n := range []int{1, 64, 65, 130} {
		for j := range n {
			i := (j * 11) % 128
			rows := make([]api.Row, n)
			rows[j][i/64] = 1 << (i % 64)
			for k, col := range colsOf(t, rows) {
				if col.Len() != n || col.Get(j) != (k == i) || k == i && col.Count() != 1 || k != i && col.Count() != 0 {
					t.Fatalf("of bit %d of row %d of %d column %d is %x", i, j, n, k, col.Raw())
				}
			}
		}
	}
}

func TestColsOfDrawnRows(t *testing.T) {
	r := rand.New(rand.NewSource(4))
	for _, n := range append(slices.Clone(sizes), 65535, 65536) {
		rows := anyRows(r, n)
		turned(t, colsOf(t, rows), rows)
	}
}

func TestColsOfNoRows(t *testing.T) {
	for _, rows := range [][]api.Row{nil, {}} {
		cols := colsOf(t, rows)
		if len(cols) != 128 {
			t.Fatalf("there are %d columns", len(cols))
		}
		for i, col := range cols {
			if col.Len() != 0 {
				t.Errorf("column %d has %d bits", i, col.Len())
			}
		}
	}
}

func TestColsOfTooManyRows(t *testing.T) {
	rows := make([]api.Row, 1<<20)
	for _, n := range []int{65537, 65538, 65600, 1 << 17, 1 << 20} {
		if cols, code := trans.Cols(rows[:n]); code != api.ErrLimit || len(cols) != 0 {
			t.Errorf("Cols of %d rows: %d columns, %d", n, len(cols), code)
		}
	}
	if cols, code := trans.Cols(rows[:65536]); code != api.OK || len(cols) != 128 {
		t.Errorf("Cols of 65536 rows: %d columns, %d", len(cols), code)
	}
}
