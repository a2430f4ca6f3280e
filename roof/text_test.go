package roof_test

import (
	"math/rand"
	"slices"
	"strconv"
	"strings"
	"testing"

	"thatch/api"
	"thatch/roof"
)

// P1.5 (Print, Parse).

func TestPrint(t *testing.T) {
	big := house()
	big.Faces[1].Side, big.Faces[1].Foot, big.Faces[1].Base, big.Faces[1].Rise, big.Faces[1].Run = api.SiWest, 10000, 0, 100, 99
	big.Faces[0].Side = api.SiEast
	big.Opens = append(big.Opens, open("stack-2", 1, 1, 41, 2, 42))
	for _, c := range []struct {
		r    api.Roof
		want string
	}{
		{api.Roof{}, ""},
		{house(), houseText},
		{big, "face s east 0 300 1 1 0 0 100 0 100 40 0 40\nface n west 10000 0 100 99 100 80 0 80 0 40 100 40\nopen stack s 10 10 20 30\nopen stack-2 n 1 41 2 42\n"},
	} {
		if s, e := roof.Print(c.r); e != api.OK || s != c.want {
			t.Errorf("%q %d", s, e)
		}
	}
	wrong := house()
	wrong.Opens[0].Face = -1
	if s, e := roof.Print(wrong); e != api.ErrNone || s != "" {
		t.Error(s, e)
	}
}

func TestPrintIsParsed(t *testing.T) {
	rng := rand.New(rand.NewSource(8))
	for range 300 {
		r := randomRoof(rng)
		s, e := roof.Print(r)
		if e != api.OK {
			t.Fatal(e)
		}
		for _, text := range []string{s, strings.TrimSuffix(s, "\n")} {
			if b, n, e := roof.Parse(text); e != api.OK || n != 0 || !sameRoof(b, r) {
				t.Fatal(r, b, n, e)
			}
		}
	}
}

const (
	faceLine = "face a south 0 0 1 1 0 0 9 0 0 9\n"
	openLine = "open o a 1 1 2 2\n"
)

func TestParse(t *testing.T) {
	for _, c := range []struct {
		text string
		want api.Roof
	}{
		{"", api.Roof{}},
		{houseText, house()},
		{houseText[:len(houseText)-1], house()},
		{"face w west 10000 10000 100 100 0 0 9 0 0 9", api.Roof{Faces: []api.Face{{Name: "w", Side: api.SiWest, Foot: 10000, Base: 10000, Rise: 100, Run: 100, Corners: points(0, 0, 9, 0, 0, 9)}}}},
		{"face n north 1 2 3 4 5 6 8 7 7 9\n", api.Roof{Faces: []api.Face{{Name: "n", Side: api.SiNorth, Foot: 1, Base: 2, Rise: 3, Run: 4, Corners: points(5, 6, 8, 7, 7, 9)}}}},
		{"face e east 1 2 3 4 5 6 8 7 7 9\n", api.Roof{Faces: []api.Face{{Name: "e", Side: api.SiEast, Foot: 1, Base: 2, Rise: 3, Run: 4, Corners: points(5, 6, 8, 7, 7, 9)}}}},
		{faceLine + "face b south 0 0 1 1 9 0 9 9 0 9\nopen o b 6 6 8 8\nopen p a 1 1 2 2\n", api.Roof{
			Faces: []api.Face{plane("a", api.SiSouth, 0, 0, 0, 9, 0, 0, 9), plane("b", api.SiSouth, 0, 9, 0, 9, 9, 0, 9)},
			Opens: []api.Open{open("o", 1, 6, 6, 8, 8), open("p", 0, 1, 1, 2, 2)},
		}},
	} {
		if r, n, e := roof.Parse(c.text); e != api.OK || n != 0 || !sameRoof(r, c.want) {
			t.Errorf("%q: %v %d %d", c.text, r, n, e)
		}
	}
}

func TestParseErrors(t *testing.T) {
	for _, c := range []struct {
		text string
		line int
		want api.Errno
	}{
		{"\n", 1, api.ErrForm},
		{" ", 1, api.ErrForm},
		{"\n" + faceLine, 1, api.ErrForm},
		{faceLine + "\n", 2, api.ErrForm},
		{faceLine + "\n" + openLine, 2, api.ErrForm},
		{"face", 1, api.ErrForm},
		{"roof", 1, api.ErrForm},
		{"Face a south 0 0 1 1 0 0 9 0 0 9", 1, api.ErrForm},
		{"fac a south 0 0 1 1 0 0 9 0 0 9", 1, api.ErrForm},
		{"face a south 0 0 1", 1, api.ErrForm},
		{"face a south 0 0", 1, api.ErrForm},
		{"face a", 1, api.ErrForm},
		{"face a south 0 0 1 1", 0, api.ErrArg},
		{"face a south 0 0 1 1 0", 1, api.ErrForm},
		{"face a south 0 0 1 1 0 0", 0, api.ErrArg},
		{"face a south 0 0 1 1 0 0 9 0 0", 1, api.ErrForm},
		{"face a South 0 0 1 1 0 0 9 0 0 9", 1, api.ErrForm},
		{"face a none 0 0 1 1 0 0 9 0 0 9", 1, api.ErrForm},
		{"face a 1 0 0 1 1 0 0 9 0 0 9", 1, api.ErrForm},
		{"face south a 0 0 1 1 0 0 9 0 0 9", 1, api.ErrForm},
		{" face a south 0 0 1 1 0 0 9 0 0 9", 1, api.ErrForm},
		{"face a south 0 0 1 1 0 0 9 0 0 9 ", 1, api.ErrForm},
		{"face a south 0 0 1 1 0 0 9 0  0 9", 1, api.ErrForm},
		{"face  a south 0 0 1 1 0 0 9 0 0 9", 1, api.ErrForm},
		{"face  south 0 0 1 1 0 0 9 0 0 9", 1, api.ErrForm},
		{"face a\tsouth 0 0 1 1 0 0 9 0 0 9", 1, api.ErrForm},
		{"face a south 0 0 1 1 0 0 9 0 0 9\r\n", 1, api.ErrForm},
		{"face a south +0 0 1 1 0 0 9 0 0 9", 1, api.ErrForm},
		{"face a south -0 0 1 1 0 0 9 0 0 9", 1, api.ErrForm},
		{"face a south 00 0 1 1 0 0 9 0 0 9", 1, api.ErrForm},
		{"face a south 0 00000000001 1 1 0 0 9 0 0 9", 1, api.ErrForm},
		{"face a south 0 10000000000 1 1 0 0 9 0 0 9", 1, api.ErrForm},
		{"face a south 0 9999999999 1 1 0 0 9 0 0 9", 0, api.ErrArg},
		{"face a south 0 -9999999999 1 1 0 0 9 0 0 9", 0, api.ErrArg},
		{"face a south 0 0 x 1 0 0 9 0 0 9", 1, api.ErrForm},
		{"face a south 0 0 1 1 0 0 9 0 0 x", 1, api.ErrForm},
		{"face A south 0 0 1 1 0 0 9 0 0 9", 0, api.ErrName},
		{"face a\x00 south 0 0 1 1 0 0 9 0 0 9", 0, api.ErrName},
		{"face a south 0 0 1 1 0 0 9 0 0 0", 0, api.ErrTwice},
		{"face a south 0 0 1 1 0 0 0 9 9 0", 0, api.ErrScope},
		{faceLine + faceLine, 0, api.ErrTwice},
		{faceLine + "face b south 0 0 1 1 0 0 9 0 0 8\n", 0, api.ErrClash},
		{openLine, 1, api.ErrNone},
		{faceLine + "open o b 1 1 2 2", 2, api.ErrNone},
		{"open o a 1 1 2\n" + faceLine, 1, api.ErrForm},
		{openLine + faceLine, 1, api.ErrNone},
		{faceLine + "open o b 1 1 2 x", 2, api.ErrForm},
		{faceLine + "open o b 1 1 2", 2, api.ErrForm},
		{faceLine + "open o a 1 1 2", 2, api.ErrForm},
		{faceLine + "open o a 1 1 2 2 3", 2, api.ErrForm},
		{faceLine + "open o a 1 1 2 2 3 3", 2, api.ErrForm},
		{faceLine + "open o a 1 1 2 02", 2, api.ErrForm},
		{faceLine + "open", 2, api.ErrForm},
		{faceLine + "open o a", 2, api.ErrForm},
		{faceLine + "open o  1 1 2 2", 2, api.ErrForm},
		{faceLine + "open  a 1 1 2 2", 2, api.ErrForm},
		{faceLine + "opens o a 1 1 2 2", 2, api.ErrForm},
		{faceLine + "open O a 1 1 2 2", 0, api.ErrName},
		{faceLine + "open o a -1 1 2 2", 0, api.ErrScope},
		{faceLine + "open o a 2 2 1 1", 0, api.ErrArg},
		{faceLine + openLine + openLine, 0, api.ErrTwice},
		{faceLine + openLine + "face b south 0 0 1 1 9 0 9 9 0 9\n", 3, api.ErrForm},
		{faceLine + openLine + "open p b 1 1 2 2\nx\n", 3, api.ErrNone},
		{faceLine + "x\n" + openLine + "y\n", 2, api.ErrForm},
		{strings.Repeat(faceLine, 17), 0, api.ErrLimit},
		{strings.Repeat(faceLine, 17) + "x", 18, api.ErrForm},
		{"face a south 0 0 1 1" + strings.Repeat(" 0 0", 13), 0, api.ErrLimit},
		{faceLine + strings.Repeat("open o a 1 1 2 2\n", 13), 0, api.ErrLimit},
	} {
		if r, n, e := roof.Parse(c.text); e != c.want || n != c.line || r.Faces != nil || r.Opens != nil {
			t.Errorf("%q: line %d, error %d; %v", c.text, n, e, r)
		}
	}
}

// Of several faces with the same name the first one is meant; the opening would not be within the second one.
func TestParseFirstFace(t *testing.T) {
	text := "face a south 0 0 1 1 0 0 9 0 0 9\nface a south 0 0 1 1 20 0 29 0 20 9\nopen o a 1 1 2 2\n"
	if _, n, e := roof.Parse(text); e != api.ErrTwice || n != 0 {
		t.Error(n, e)
	}
}

func TestParseLimit(t *testing.T) {
	word := func(size int) string { return strings.Repeat("x", size) }
	for _, c := range []struct {
		text string
		line int
		want api.Errno
	}{
		{word(api.MaxText), 1, api.ErrForm},
		{word(api.MaxText + 1), 0, api.ErrLimit},
		{strings.Repeat("\n", api.MaxText+1), 0, api.ErrLimit},
		{strings.Repeat("x\n", api.MaxText/2), 1, api.ErrForm},
		{"face a south 0 0 1 1" + strings.Repeat(" 0", api.MaxText), 0, api.ErrLimit},
		{faceLine + "open " + word(api.MaxText-len(faceLine)-len("open  a 1 1 2 2")) + " a 1 1 2 2", 0, api.ErrName},
		{faceLine + "open " + word(api.MaxText-len(faceLine)-len("open  a 1 1 2 2")) + " a 1 1 2 22", 0, api.ErrLimit},
	} {
		if r, n, e := roof.Parse(c.text); e != c.want || n != c.line || r.Faces != nil || r.Opens != nil {
			t.Error(len(c.text), n, e)
		}
	}
}

// Each word of a good text is wrong in its own way.
func TestParseChangedWords(t *testing.T) {
	lines := strings.Split(strings.TrimSuffix(houseText, "\n"), "\n")
	for i, line := range lines {
		for k := range strings.Split(line, " ") {
			for _, word := range []string{"", "-", "X1", "01", "-0", strconv.Itoa(1 << 40)} {
				parts := strings.Split(line, " ")
				parts[k] = word
				changed := slices.Clone(lines)
				changed[i] = strings.Join(parts, " ")
				text := strings.Join(changed, "\n")
				wantLine, want := i+1, api.ErrForm
				switch {
				case word == "":
				case k == 1 && i == 0:
					wantLine, want = 3, api.ErrNone // the opening's face is gone
				case k == 1:
					wantLine, want = 0, api.ErrName
				case k == 2 && i == 2:
					want = api.ErrNone
				}
				if r, n, e := roof.Parse(text); e != want || n != wantLine || r.Faces != nil || r.Opens != nil {
					t.Errorf("%q: line %d, error %d", text, n, e)
				}
			}
		}
	}
}
