package ridge

import (
	"slices"
	"strings"

	"thatch/api"
	"thatch/fault"
	"thatch/words"
)

// firstPiece is the number of the line of the first piece.
const firstPiece = 2

func write(r api.Ridge) string {
	var text strings.Builder
	words.WriteLine(&text, "ridge", r.Length, r.Start, r.End)
	for _, p := range r.Pieces {
		text.WriteString("piece " + p.Name)
		words.WriteNumbers(&text, p.Width, p.Left, p.Right)
		text.WriteString(" " + r.Pieces[p.Mirror].Name + "\n")
	}
	return text.String()
}

// read returns the ridge of a text, which need not be one that may be, or the line that is wrong. words.Parse drops the ridge if there is an error, and the line if there is none.
func read(text string) (r api.Ridge, line int, e api.Errno) {
	e = fault.Of(func() {
		fault.Unless(text != "", api.ErrForm)
		var mirrors []string
		for number, s := range words.Lines(text) {
			line = number
			parts := strings.Split(s, " ")
			if line < firstPiece {
				r = readRidge(parts)
				continue
			}
			p, mirror := readPiece(parts)
			r.Pieces = append(r.Pieces, p)
			mirrors = append(mirrors, mirror)
		}
		// A Mirror may be behind its piece: it is looked for when all of them are read.
		for i, name := range mirrors {
			line = firstPiece + i
			number := findPiece(r.Pieces, name)
			fault.Unless(number >= 0, api.ErrNone)
			r.Pieces[i].Mirror = number
		}
	})
	return r, line, e
}

func readRidge(parts []string) api.Ridge {
	fault.Unless(len(parts) == 4 && parts[0] == "ridge", api.ErrForm)
	n := readNumbers(parts[1:])
	return api.Ridge{Length: n[0], Start: n[1], End: n[2]}
}

// readPiece returns a piece without its Mirror, and the name of that.
func readPiece(parts []string) (p api.Piece, mirror string) {
	fault.Unless(len(parts) == 6 && parts[0] == "piece" && !slices.Contains(parts, ""), api.ErrForm)
	n := readNumbers(parts[2:5])
	return api.Piece{Name: parts[1], Width: n[0], Left: n[1], Right: n[2]}, parts[5]
}

func readNumbers(parts []string) []int {
	list, ok := words.Numbers(parts)
	fault.Unless(ok, api.ErrForm)
	return list
}
