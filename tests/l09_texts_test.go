package tests

import (
	"fmt"
	"regexp"
	"slices"
	"strings"
	"testing"

	"loop.example/g01201/impl"
)

// sheetForm is the form of a text of a sheet, but for the equal lengths of its rows.
var sheetForm = regexp.MustCompile(`\A[wb](/[0-8]{3,16}){3,16}\z`)

// sheetWith returns the sheet with a text, and whether there is one, without help
// of the package.
func sheetWith(text string) (impl.Sheet, bool) {
	if !sheetForm.MatchString(text) {
		return impl.Sheet{}, false
	}
	high := strings.Count(text, "/")
	wide := (len(text)-1)/high - 1
	if len(text) != 1+high*(wide+1) {
		return impl.Sheet{}, false
	}
	s := blankSheet(int64(wide), int64(high), text[0] == 'w')
	for i := range s.Speeds {
		at := 1 + i/wide*(wide+1)
		if text[at] != '/' {
			return impl.Sheet{}, false
		}
		s.Speeds[i] = float32(text[at+1+i%wide]-'0') * 0x1p-4
	}
	return s, true
}

// sheetTextWith returns the text of a sheet whose cells have the told digits.
func sheetTextWith(wide, high int64, wrap bool, digit func() int64) string {
	text := "b"
	if wrap {
		text = "w"
	}
	for range high {
		text += "/"
		for range wide {
			text += fmt.Sprint(digit())
		}
	}
	return text
}

func anySheetText(source *numbers, wide, high int64, wrap bool) string {
	return sheetTextWith(wide, high, wrap, func() int64 { return below(source, 9) })
}

// isReadAs checks ReadSheet against the second reader, and tells what that found.
func isReadAs(t *testing.T, text string) bool {
	t.Helper()
	want, isSheet := sheetWith(text)
	got, ok := impl.ReadSheet(text)
	is(t, fmt.Sprintf("ReadSheet %.300q", text), told(got, ok), told(want, isSheet))
	return isSheet
}

func isNoSheetText(t *testing.T, text string) {
	t.Helper()
	s, ok := impl.ReadSheet(text)
	isNoSheet(t, fmt.Sprintf("ReadSheet %.300q", text), s, ok)
}

func TestExamplesOfSheetTexts(t *testing.T) {
	for text, wrap := range map[string]bool{"w/888/888/888": true, "b/888/888/888": false} {
		got, ok := impl.ReadSheet(text)
		isSheet(t, "ReadSheet "+text, got, ok, plainScene(3, 3, wrap, 0.5, 0).s)
	}
}

func TestReadSheetOfEachDigit(t *testing.T) {
	for _, c := range []struct {
		text string
		want impl.Sheet
	}{
		{"b/012/345/678/800", impl.Sheet{
			Wide: 3, High: 4, Losses: make([]float32, 12),
			Speeds: []float32{0, 0.0625, 0.125, 0.1875, 0.25, 0.3125, 0.375, 0.4375, 0.5, 0.5, 0, 0},
		}},
		{"w/0123/4567/8001", impl.Sheet{
			Wide: 4, High: 3, Wrap: true, Losses: make([]float32, 12),
			Speeds: []float32{0, 0.0625, 0.125, 0.1875, 0.25, 0.3125, 0.375, 0.4375, 0.5, 0, 0, 0.0625},
		}},
	} {
		got, ok := impl.ReadSheet(c.text)
		isSheet(t, "ReadSheet "+c.text, got, ok, c.want)
	}
}

func TestReadSheetOfTheLeastAndTheGreatestSides(t *testing.T) {
	for mark, wrap := range map[string]bool{"w": true, "b": false} {
		for _, wide := range []int{leastSide, maxSide} {
			for _, high := range []int{leastSide, maxSide} {
				for digit := range 9 {
					row := "/" + strings.Repeat(fmt.Sprint(digit), wide)
					text := mark + strings.Repeat(row, high)
					got, ok := impl.ReadSheet(text)
					want, plainOk := impl.PlainSheet(int64(wide), int64(high), wrap, float32(digit)/16)
					is(t, "PlainSheet succeeds", plainOk, true)
					isSheet(t, "ReadSheet "+text, got, ok, want)
				}
			}
		}
	}
}

func TestReadSheetOfAllShapes(t *testing.T) {
	source := numbers{300}
	eachShape(func(wide, high int64, wrap bool) {
		var digits []int64
		text := sheetTextWith(wide, high, wrap, func() int64 {
			digits = append(digits, below(&source, 9))
			return digits[len(digits)-1]
		})
		want := blankSheet(wide, high, wrap)
		for i, digit := range digits {
			want.Speeds[i] = float32(digit) / 16
		}
		got, ok := impl.ReadSheet(text)
		isSheet(t, "ReadSheet "+text, got, ok, want)
		is(t, "what is read is a sheet", impl.ValidSheet(got), true)
		is(t, "the second reader "+text, isReadAs(t, text), true)
	})
}

func TestSheetTextsThatAreRefused(t *testing.T) {
	for what, texts := range map[string][]string{
		"no row":          {"", "w", "b", "none", "/"},
		"an empty row":    {"w/", "b//", "w///", "b/888/888/", "w//888/888", "b/888//888", "w/888/888/888/", "b//888/888/888", "w/888/888//888", "b////"},
		"too few rows":    {"w/888", "b/888/888", "w/8888888888888888/8888888888888888"},
		"too short rows":  {"w/8/8/8", "b/88/88/88", "w/88/88/88/88/88/88/88/88/88/88/88/88/88/88/88/88"},
		"too many rows":   {"w" + strings.Repeat("/888", maxSide+1), "b" + strings.Repeat("/888", 64), "w" + strings.Repeat("/8888888888888888", maxSide+1)},
		"too long rows":   {"b" + strings.Repeat("/88888888888888888", 3), "w" + strings.Repeat("/88888888888888888", maxSide), "b" + strings.Repeat("/"+strings.Repeat("8", 64), 3)},
		"other lengths":   {"w/8888/888/888", "b/888/8888/888", "w/888/888/8888", "b/88/888/888", "w/888/88/888", "b/888/888/88", "w/8888/888/88", "b/888/888/888/8"},
		"other marks":     {"/888/888/888", "888/888/888", "W/888/888/888", "B/888/888/888", "x/888/888/888", "1/888/888/888", "wb/888/888/888", "ww/888/888/888", " w/888/888/888", "w /888/888/888", "\x00w/888/888/888", "w888/888/888"},
		"other digits":    {"w/889/888/888", "b/888/898/888", "w/888/888/88a", "b/88A/888/888", "w/-88/888/888", "b/+88/888/888", "w/8.8/888/888", "b/8 8/888/888", "w/\xff88/888/888", "b/888/888/88\x00", "w/8\n8/888/888", "b/88:/888/888", "w/٨٨٨/٨٨٨/٨٨٨", "b/8٨/888/888"},
		"other rows":      {"w\\888\\888\\888", "b,888,888,888", "w/888 888 888", "b/888\n/888/888", "w/888/ 888/888", "w|888|888|888", "b/888888888", "w/888/888,888"},
		"behind the rows": {"w/888/888/888 ", "b/888/888/888\n", "w/888/888/888\x00", "b/888/888/888w", "w/888/888/888//", "b/888/888/888/w", "w/888/888/888w/888/888/888", "b/888/888/888/ "},
		"a second text":   {"w/888/888/888/b/888/888/888", "b/888/888/888b/888/888/888"},
	} {
		for _, text := range texts {
			isNoSheetText(t, text)
			is(t, "the second reader finds no sheet: "+what, isReadAs(t, text), false)
		}
	}
}

func TestLongSheetTextsAreRefused(t *testing.T) {
	const many = 1 << 20
	for _, piece := range []string{"/", "/888", "8", "w", "w/888/888/888", "\x00", "\xff", "/8888888888888888"} {
		long := strings.Repeat(piece, many)
		for _, text := range []string{long, "w" + long, "b" + long, "w/888/888/888" + long} {
			isNoSheetText(t, text)
		}
	}
}

// Each other byte at each place of a text leads to another sheet or to none.
func TestSheetTextsWithOtherBytes(t *testing.T) {
	for _, text := range []string{"w/0123/4567/8765", "b/888/000/123/654"} {
		sheets := 0
		for at := range len(text) {
			for other := range 256 {
				if isReadAs(t, text[:at]+string([]byte{byte(other)})+text[at+1:]) {
					sheets++
				}
			}
		}
		is(t, "how many sheets "+text, sheets, 2+12*9+strings.Count(text, "/"))
	}
}

// Texts are cut at each place, and a byte is put in or left out at each.
func TestSheetTextsThatAreCutAndChanged(t *testing.T) {
	source := numbers{301}
	for _, side := range [][2]int64{{3, 3}, {3, 4}, {4, 3}, {5, 6}, {15, 16}, {16, 15}, {16, 16}} {
		for _, wrap := range []bool{false, true} {
			text := anySheetText(&source, side[0], side[1], wrap)
			sheets := 0
			for at := range len(text) {
				if isReadAs(t, text[:at]) {
					sheets++
				}
				isReadAs(t, text[at:])
				isReadAs(t, text[:at]+text[at+1:])
				for _, put := range []string{"/", "8", "0", "9", "w", "b", " ", "\n", "\x00", "/888", "/" + text[2:2+side[0]]} {
					isReadAs(t, text[:at]+put+text[at:])
					isReadAs(t, text+put)
				}
			}
			is(t, fmt.Sprint("how many beginnings are sheets ", side), sheets, int(side[1])-leastSide)
		}
	}
}

// looseSheetText returns a text that is nearly that of a sheet, or one of any bytes.
func looseSheetText(n int) string {
	source := numbers{uint64(n) + 1<<43}
	side := func() int64 { return picked(&source, []int64{2, 3, 3, 4, 4, 5, 15, 16, 16, 17}) }
	text := anySheetText(&source, side(), side(), below(&source, 2) == 0)
	switch n % 4 {
	case 1:
		at := below(&source, int64(len(text)))
		text = text[:at] + picked(&source, []string{"", "/", "7", "9", "w"}) + text[at+1:]
	case 2:
		cut, other := below(&source, int64(len(text))), anySheetText(&source, side(), side(), true)
		text = text[:cut] + other[min(cut, int64(len(other))):]
	case 3:
		bytes := make([]byte, below(&source, 40))
		for i := range bytes {
			bytes[i] = picked(&source, []byte{'w', 'b', '/', '/', '8', '8', '3', '0', byte(source.next() >> 40)})
		}
		text = string(bytes)
	}
	return text
}

func TestReadSheetReturnsForAllTexts(t *testing.T) {
	sheets, others := 0, 0
	for n := range 20000 {
		if isReadAs(t, looseSheetText(n)) {
			sheets++
		} else {
			others++
		}
	}
	is(t, fmt.Sprint("both are many ", sheets, others), sheets > 2000 && others > 2000, true)
}

func TestEqualTextsHaveEqualSheets(t *testing.T) {
	read := func(text string) string {
		s, ok := impl.ReadSheet(text)
		return told(s, ok)
	}
	for n := range 2000 {
		text := looseSheetText(n)
		first := read(text)
		read(looseSheetText(n + 1))
		is(t, "ReadSheet again "+text, read(strings.Clone(text)), first)
	}
}

func TestSheetsThatAreReadOwnTheirMemory(t *testing.T) {
	source := numbers{302}
	for _, side := range [][2]int64{{3, 3}, {5, 4}, {16, 16}} {
		text := anySheetText(&source, side[0], side[1], side[0] == 5)
		want, ok := sheetWith(text)
		is(t, "the second reader succeeds", ok, true)
		for k := range 2 {
			s, ok := impl.ReadSheet(text)
			isSheet(t, "ReadSheet "+text, s, ok, want)
			lists := [2][]float32{s.Speeds, s.Losses}
			room := lists[k][:cap(lists[k])]
			for i := range room {
				room[i] = 12345
			}
			is(t, "the other list", slices.Equal(lists[1-k], [2][]float32{want.Speeds, want.Losses}[1-k]), true)
			later, ok := impl.ReadSheet(text)
			isSheet(t, "ReadSheet again "+text, later, ok, want)
		}
	}
}

// What is read can be used like any sheet.
func TestBordersOfASheetThatIsRead(t *testing.T) {
	s, ok := impl.ReadSheet("b/88888/88888/88888/88888/88888")
	isSheet(t, "ReadSheet", s, ok, squareScene(false, nil).s)
	channel, ok := impl.ChannelSheet(s, 1, 3)
	want, wantOk := impl.ReadSheet("b/00000/88888/88888/88888/00000")
	is(t, "ReadSheet succeeds", wantOk, true)
	isSheet(t, "ChannelSheet", channel, ok, want)
	slit, ok := impl.SlitSheet(channel, 2, []int64{2})
	want, wantOk = impl.ReadSheet("b/00000/88088/88888/88088/00000")
	is(t, "ReadSheet succeeds", wantOk, true)
	isSheet(t, "SlitSheet", slit, ok, want)
	filled, ok := impl.FillRect(slit, impl.Rect{X: 1, Y: 3, Wide: 4, High: 2}, 0.1875, 0)
	want, wantOk = impl.ReadSheet("b/00000/88088/88888/83333/03333")
	is(t, "ReadSheet succeeds", wantOk, true)
	isSheet(t, "FillRect", filled, ok, want)
}
