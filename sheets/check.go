package sheets

import (
	"slices"

	"squeaker/api"
)

func validSheet(s api.Sheet) bool {
	width, ok := rowWidths()[s.Kind]
	wrong := func(row []int) bool { return len(row) != width || slices.ContainsFunc(row, isNoCell) }
	return ok && len(s.Rows) <= api.MaxSheetRows && !slices.ContainsFunc(s.Rows, wrong)
}

// rowWidths returns how many numbers a row of each kind of sheet has.
func rowWidths() map[int]int {
	return map[int]int{api.RingBook: 2, api.ClockSheet: 3, api.StrikeList: 4}
}

func isNoCell(n int) bool { return !isIn(n, 0, api.MaxCell) }

func isIn(n, low, high int) bool { return low <= n && n <= high }
