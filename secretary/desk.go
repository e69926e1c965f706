package secretary

import "squeaker/api"

// A desk is the ledger that is written there, which shares no memory with any other, and the words that lines begin
// with.
type desk struct {
	api.Ledger
	words map[string]word
}

// A word is how many numbers stand behind it, and what is done with them, which returns the answer.
type word struct {
	numbers int
	do      func(d *desk, n []int) string
}

// open returns the desk of a valid club on the first day.
func open(c api.Club) *desk {
	return &desk{Ledger: api.Ledger{Club: copied(c)}, words: map[string]word{
		"day":     {1, (*desk).day},
		"deed":    {4, (*desk).deed},
		"recall":  {1, (*desk).recall},
		"owner":   {1, (*desk).owner},
		"who":     {1, (*desk).who},
		"has":     {1, (*desk).has},
		"ring":    {1, (*desk).ring},
		"strike":  {4, (*desk).strike},
		"when":    {2, (*desk).when},
		"home":    {3, (*desk).home},
		"enter":   {2, (*desk).enter},
		"name":    {2, (*desk).name},
		"rank":    {3, (*desk).rank},
		"protest": {1, (*desk).protest},
		"settle":  {2, (*desk).settle},
		"pot":     {1, (*desk).pot},
		"prize":   {2, (*desk).prize},
		"can":     {2, (*desk).can},
		"purse":   {1, (*desk).purse},
	}}
}

// answer does what a line says, and returns the answer.
func (d *desk) answer(line string) string {
	first, numbers, ok := read(line)
	w, known := d.words[first]
	if !ok || !known || len(numbers) != w.numbers {
		return unknown
	}
	return w.do(d, numbers)
}
