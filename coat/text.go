package coat

import (
	"strings"

	"thatch/api"
	"thatch/words"
)

func write(c api.Coat) string {
	var text strings.Builder
	for _, k := range c.Courses {
		words.WriteLine(&text, "course", k.V)
		for _, b := range k.Bundles {
			words.WriteLine(&text, "bundle", b.U, b.Width, b.Length, b.Lean, b.Taper, b.Thick)
		}
	}
	return text.String()
}

// wrongLine is the number of a line that is of no form: readers panic with it, and read recovers it.
type wrongLine int

// read returns the coat of a text, which need not be one that may be, or the line that is wrong.
func read(text string) (c api.Coat, line int, e api.Errno) {
	defer func() {
		if wrong, ok := recover().(wrongLine); ok {
			line, e = int(wrong), api.ErrForm
		}
	}()
	var courses []api.Course
	for number, s := range words.Lines(text) {
		courses = readLine(courses, wrongLine(number), s)
	}
	return api.Coat{Courses: courses}, 0, api.OK
}

// readLine returns the courses with what a line says: one more, or a bundle more in the last one.
func readLine(courses []api.Course, line wrongLine, s string) []api.Course {
	parts := strings.Split(s, " ")
	n, ok := words.Numbers(parts[1:])
	last := len(courses) - 1
	switch {
	case ok && parts[0] == "course" && len(n) == 1:
		return append(courses, api.Course{V: n[0]})
	case ok && parts[0] == "bundle" && len(n) == 6 && last >= 0:
		b := api.Bundle{U: n[0], Width: n[1], Length: n[2], Lean: n[3], Taper: n[4], Thick: n[5]}
		courses[last].Bundles = append(courses[last].Bundles, b)
		return courses
	}
	panic(line)
}
