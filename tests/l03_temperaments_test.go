package tests

import (
	"math"
	"math/rand"
	"slices"
	"strconv"
	"strings"
	"testing"

	"loop.example/g00952/impl"
)

// The temperaments and scales of this file are written out from the tables of chapter 3.
var temperamentTable = []impl.Temperament{
	{Name: "equal", Offsets: []int64{0, 0, 0, 0, 0, 0, 0, 0, 0, 0, 0, 0}},
	{Name: "just", Offsets: []int64{0, 117, 39, 156, -137, -20, -98, 20, 137, -156, 176, -117}},
	{Name: "meantone", Offsets: []int64{0, -240, -68, 103, -137, 34, -205, -34, -274, -103, 68, -171}},
	{Name: "pythagoras", Offsets: []int64{0, 137, 39, -59, 78, -20, 117, 20, 156, 59, -39, 98}},
}

var temperamentTexts = []string{
	"equal 0,0,0,0,0,0,0,0,0,0,0,0",
	"just 0,117,39,156,-137,-20,-98,20,137,-156,176,-117",
	"meantone 0,-240,-68,103,-137,34,-205,-34,-274,-103,68,-171",
	"pythagoras 0,137,39,-59,78,-20,117,20,156,59,-39,98",
}

var scaleTable = [][]int64{
	{0, 2, 4, 5, 7, 9, 11, 12},
	{0, 2, 3, 5, 7, 8, 10, 12},
	{0, 1, 2, 3, 4, 5, 6, 7, 8, 9, 10, 11, 12},
	{0, 2, 4, 7, 9, 12},
}

var (
	edgeNotes = []int64{math.MinInt64, -128, -12, -1, 0, 1, 11, 12, 60, 68, 69, 70, 115, 116, 126, 127, 128, 139, 1 << 32, math.MaxInt64}
	noNotes   = []int64{math.MinInt64, -128, -1, 128, 1 << 32, math.MaxInt64}
)

func isNote(n int64) bool { return n >= 0 && n <= 127 }

// offsetsWith returns twelve offsets that are 0 but for one.
func offsetsWith(place int, offset int64) []int64 {
	list := make([]int64, 12)
	list[place] = offset
	return list
}

// ownTemperaments has valid temperaments beside those of the table, with offsets at their limits.
func ownTemperaments() []impl.Temperament {
	return []impl.Temperament{
		{Name: "a", Offsets: offsetsWith(0, 500)}, {Name: "abcdefghij", Offsets: offsetsWith(11, -500)},
		{Name: "own7", Offsets: []int64{500, -500, 500, -500, 500, -500, 500, -500, 500, -500, 500, -500}},
		{Name: "low", Offsets: slices.Repeat([]int64{-500}, 12)}, {Name: "high", Offsets: slices.Repeat([]int64{500}, 12)},
	}
}

// badTemperaments has temperaments that are not valid, each for one reason.
func badTemperaments() []impl.Temperament {
	bad := []impl.Temperament{
		{}, {Name: "own"}, {Name: "own", Offsets: []int64{}}, {Name: "own", Offsets: make([]int64, 11)}, {Name: "own", Offsets: make([]int64, 13)},
		{Name: "own", Offsets: make([]int64, 1000)}, {Name: "own", Offsets: []int64{0}},
		{Name: "", Offsets: make([]int64, 12)}, {Name: "Own", Offsets: make([]int64, 12)}, {Name: "7own", Offsets: make([]int64, 12)},
		{Name: "a b", Offsets: make([]int64, 12)}, {Name: "abcdefghijk", Offsets: make([]int64, 12)}, {Name: "\xff", Offsets: make([]int64, 12)},
	}
	for place := range 12 {
		for _, offset := range []int64{501, -501, math.MaxInt64, math.MinInt64} {
			bad = append(bad, impl.Temperament{Name: "own", Offsets: offsetsWith(place, offset)})
		}
	}
	return bad
}

func intervalModel(t impl.Temperament, a, b int64) int64 {
	return 1000*b + t.Offsets[b%12] - 1000*a - t.Offsets[a%12]
}

func sameTemperaments(a, b impl.Temperament) bool {
	return a.Name == b.Name && slices.Equal(a.Offsets, b.Offsets)
}

func TestP4Constants(t *testing.T) {
	got := []int64{impl.PitchNote, impl.MaxOffset, impl.ScMajor, impl.ScMinor, impl.ScChromatic, impl.ScPentatonic, impl.MaxNote}
	if want := []int64{69, 500, 1, 2, 3, 4, 127}; !slices.Equal(got, want) {
		t.Errorf("constants: got %v, want %v", got, want)
	}
}

func TestP4Table(t *testing.T) {
	if got, want := impl.TemperamentNames(), []string{"equal", "just", "meantone", "pythagoras"}; !slices.Equal(got, want) {
		t.Errorf("TemperamentNames: got %q, want %q", got, want)
	}
	for i, want := range temperamentTable {
		got, code := impl.TemperamentNamed(want.Name)
		if !sameTemperaments(got, want) || code != codeOK || !impl.ValidTemperament(got) {
			t.Errorf("TemperamentNamed(%q): got %v %d, want %v", want.Name, got, code, want)
		}
		if text := impl.TemperamentText(got); text != temperamentTexts[i] {
			t.Errorf("TemperamentText of %q: got %q", want.Name, text)
		}
	}
	for _, name := range []string{"", "other", "Equal", "equal ", " equal", "equa", "equall", "EQUAL", "just,", "pythagorean", "\xff"} {
		if got, code := impl.TemperamentNamed(name); got.Name != "" || got.Offsets != nil || code != codeMissing {
			t.Errorf("TemperamentNamed(%q): got %v %d, want an error", name, got, code)
		}
	}
}

func TestP4ValidTemperament(t *testing.T) {
	for _, own := range slices.Concat(temperamentTable, ownTemperaments()) {
		if !impl.ValidTemperament(own) {
			t.Errorf("ValidTemperament(%v): got false", own)
		}
	}
	for place := range 12 {
		for _, offset := range []int64{500, -500} {
			if !impl.ValidTemperament(impl.Temperament{Name: "own", Offsets: offsetsWith(place, offset)}) {
				t.Errorf("ValidTemperament with the offset %d at %d: got false", offset, place)
			}
		}
	}
	for _, bad := range badTemperaments() {
		if impl.ValidTemperament(bad) {
			t.Errorf("ValidTemperament(%v): got true", bad)
		}
	}
}

func TestP4SameTemperament(t *testing.T) {
	all := slices.Concat(temperamentTable, ownTemperaments(), badTemperaments())
	for _, a := range all {
		for _, b := range all {
			other := impl.Temperament{Name: strings.Clone(b.Name), Offsets: slices.Clone(b.Offsets)}
			if got, want := impl.SameTemperament(a, other), sameTemperaments(a, b); got != want {
				t.Errorf("SameTemperament(%v, %v): got %v", a, b, got)
			}
		}
	}
	for _, c := range []struct {
		a, b impl.Temperament
		want bool
	}{
		{impl.Temperament{}, impl.Temperament{}, true}, {impl.Temperament{}, impl.Temperament{Offsets: []int64{}}, true},
		{impl.Temperament{Name: "a"}, impl.Temperament{Name: "b"}, false}, {impl.Temperament{Name: "A b"}, impl.Temperament{Name: "A b"}, true},
		{impl.Temperament{Offsets: []int64{1, 2}}, impl.Temperament{Offsets: []int64{1, 2}}, true}, {impl.Temperament{Offsets: []int64{1, 2}}, impl.Temperament{Offsets: []int64{2, 1}}, false},
		{impl.Temperament{Offsets: []int64{1}}, impl.Temperament{Offsets: []int64{1, 0}}, false}, {impl.Temperament{Offsets: []int64{1, 0}}, impl.Temperament{Offsets: []int64{1}}, false},
		{impl.Temperament{Offsets: []int64{0}}, impl.Temperament{}, false}, {impl.Temperament{Name: "a", Offsets: []int64{7}}, impl.Temperament{Name: "", Offsets: []int64{7}}, false},
	} {
		if got := impl.SameTemperament(c.a, c.b); got != c.want {
			t.Errorf("SameTemperament(%v, %v): got %v", c.a, c.b, got)
		}
	}
}

func TestP4NoteNames(t *testing.T) {
	for note, want := range map[int64]string{
		69: "a4", // the example of the chapter
		0:  "c-1", 1: "cs-1", 2: "d-1", 3: "ds-1", 4: "e-1", 5: "f-1", 6: "fs-1", 7: "g-1", 8: "gs-1", 9: "a-1", 10: "as-1", 11: "b-1",
		12: "c0", 23: "b0", 24: "c1", 59: "b3", 60: "c4", 61: "cs4", 70: "as4", 71: "b4", 115: "g8", 116: "gs8", 119: "b8", 120: "c9", 126: "fs9", 127: "g9",
	} {
		if got := impl.NoteName(note); got != want {
			t.Errorf("NoteName(%d): got %q, want %q", note, got, want)
		}
		if got, ok := impl.NoteNamed(want); got != note || !ok {
			t.Errorf("NoteNamed(%q): got %d %v, want %d", want, got, ok, note)
		}
	}
	for _, note := range noNotes {
		if got := impl.NoteName(note); got != "" {
			t.Errorf("NoteName(%d): got %q, want none", note, got)
		}
	}
	for _, s := range []string{
		"", "h4", "c", "cs", "4", "-1", "c-", "c-2", "b-2", "gs9", "a9", "b9", "c10", "c-0", "c00", "c04", "c+4", "c 4", " c4", "c4 ", "c4\n", "C4", "CS4", "c#4", "es4", "bs4", "css4", "sc4", "c4s",
		"c-01", "a4.0", "a44", "aa4", "ab4", "c999999999999999999", "c9223372036854775807", "c٤", "\xff", "c\x004", strings.Repeat("a4", 1000), "c" + strings.Repeat("4", 1000),
	} {
		if got, ok := impl.NoteNamed(s); got != 0 || ok {
			t.Errorf("NoteNamed(%q): got %d %v, want none", s, got, ok)
		}
	}
}

// TestP4NotesAreReadBack: all notes have names of their own and are found by them.
func TestP4NotesAreReadBack(t *testing.T) {
	parts := []string{"c", "cs", "d", "ds", "e", "f", "fs", "g", "gs", "a", "as", "b"}
	for note := range int64(128) {
		want := parts[note%12] + strconv.FormatInt(note/12-1, 10)
		if got := impl.NoteName(note); got != want {
			t.Errorf("NoteName(%d): got %q, want %q", note, got, want)
		}
		if got, ok := impl.NoteNamed(want); got != note || !ok {
			t.Errorf("NoteNamed(%q): got %d %v, want %d", want, got, ok, note)
		}
	}
}

func TestP4ScaleNotes(t *testing.T) {
	for kind, steps := range scaleTable {
		for _, root := range []int64{0, 1, 60, 61, 114, 115} {
			want := make([]int64, len(steps))
			for i := range steps {
				want[i] = root + steps[i]
			}
			if got, code := impl.ScaleNotes(root, int64(kind)+1); !slices.Equal(got, want) || code != codeOK {
				t.Errorf("ScaleNotes(%d, %d): got %v %d, want %v", root, kind+1, got, code, want)
			}
		}
	}
	for _, c := range []struct{ root, kind, code int64 }{
		{116, 1, codeState}, {116, 2, codeState}, {116, 3, codeState}, {116, 4, codeState}, {127, 1, codeState}, {127, 4, codeState}, {120, 3, codeState},
		{60, 0, codeRange}, {60, 5, codeRange}, {60, -1, codeRange}, {60, math.MaxInt64, codeRange}, {60, math.MinInt64, codeRange}, {60, 1<<32 + 1, codeRange},
		{-1, 1, codeRange}, {128, 1, codeRange}, {-12, 3, codeRange}, {math.MaxInt64, 1, codeRange}, {math.MinInt64, 1, codeRange}, {math.MaxInt64 - 11, 1, codeRange},
		// ErrRange comes before ErrState
		{116, 0, codeRange}, {116, 5, codeRange}, {127, 5, codeRange}, {128, 5, codeRange}, {128, 0, codeRange},
	} {
		if got, code := impl.ScaleNotes(c.root, c.kind); got != nil || code != c.code {
			t.Errorf("ScaleNotes(%d, %d): got %v %d, want the error %d", c.root, c.kind, got, code, c.code)
		}
	}
}

func TestP4NoteInterval(t *testing.T) {
	for _, c := range []struct {
		name       string
		a, b, want int64
	}{
		{"equal", 60, 61, 1000}, {"equal", 60, 60, 0}, {"equal", 0, 127, 127000}, {"equal", 127, 0, -127000},
		{"just", 60, 64, 3863}, {"just", 64, 60, -3863}, {"just", 60, 67, 7020}, {"just", 61, 62, 922}, {"just", 0, 127, 127020}, {"just", 127, 0, -127020},
		{"meantone", 60, 67, 6966}, {"meantone", 60, 64, 3863}, {"meantone", 61, 62, 1172}, {"meantone", 0, 127, 126966},
		{"pythagoras", 69, 57, -12000}, {"pythagoras", 60, 64, 4078}, {"pythagoras", 61, 62, 902}, {"pythagoras", 71, 72, 902}, {"pythagoras", 127, 127, 0},
	} {
		temperament, _ := impl.TemperamentNamed(c.name)
		if got, code := impl.NoteInterval(temperament, c.a, c.b); got != c.want || code != codeOK {
			t.Errorf("NoteInterval(%s, %d, %d): got %d %d, want %d", c.name, c.a, c.b, got, code, c.want)
		}
	}
}

// TestP4IntervalsAddUp: the interval over a third note is that of both steps, the way back is its negative,
// and an octave has 12000 tenths of a cent in each temperament.
func TestP4IntervalsAddUp(t *testing.T) {
	random := rand.New(rand.NewSource(9))
	for _, temperament := range slices.Concat(temperamentTable, ownTemperaments()) {
		between := func(a, b int64) int64 {
			interval, code := impl.NoteInterval(temperament, a, b)
			if code != codeOK || interval != intervalModel(temperament, a, b) {
				t.Errorf("NoteInterval(%v, %d, %d): got %d %d", temperament, a, b, interval, code)
			}
			return interval
		}
		for a := range int64(128) {
			for b := range int64(128) {
				c := random.Int63n(128)
				if between(a, b)+between(b, c) != between(a, c) || between(a, b) != -between(b, a) {
					t.Errorf("NoteInterval: the intervals of %d, %d and %d of %v do not add up", a, b, c, temperament)
				}
			}
			if a+12 <= 127 && between(a, a+12) != 12000 {
				t.Errorf("NoteInterval: no octave from %d of %v", a, temperament)
			}
		}
	}
}

func TestP4NoteFrequency(t *testing.T) {
	for _, c := range []struct {
		name              string
		pitch, note, want int64
	}{
		{"equal", 440000, 60, 261626}, // the example of the chapter
		{"equal", 440000, 69, 440000}, {"equal", 440000, 4, 10301}, {"equal", 440000, 5, 10914}, {"equal", 440000, 21, 27500}, {"equal", 440000, 57, 220000},
		{"equal", 440000, 61, 277183}, {"equal", 440000, 70, 466164}, {"equal", 440000, 81, 880000}, {"equal", 440000, 108, 4186010}, {"equal", 440000, 127, 12543855},
		{"just", 440000, 60, 263994}, {"just", 440000, 4, 10313}, {"just", 440000, 127, 12672028}, {"just", 440000, 69, 440000},
		{"meantone", 440000, 64, 328981}, {"meantone", 440000, 60, 263187}, {"meantone", 440000, 4, 10281}, {"meantone", 440000, 127, 12593949},
		{"pythagoras", 440000, 60, 260736}, {"pythagoras", 440000, 4, 10313}, {"pythagoras", 702000, 127, 19968116},
		{"equal", 415305, 60, 246942}, {"equal", 415305, 5, 10301}, {"equal", 10000, 69, 10000}, {"equal", 20000000, 69, 20000000}, {"just", 20000000, 69, 20000000},
	} {
		temperament, _ := impl.TemperamentNamed(c.name)
		if got, code := impl.NoteFrequency(temperament, c.pitch, c.note); got != c.want || code != codeOK {
			t.Errorf("NoteFrequency(%s, %d, %d): got %d %d, want %d", c.name, c.pitch, c.note, got, code, c.want)
		}
	}
}

// TestP4NotesWithoutFrequency: the lowest and the highest notes may be beyond the range of frequencies.
func TestP4NotesWithoutFrequency(t *testing.T) {
	for _, temperament := range temperamentTable {
		for _, c := range []struct{ pitch, note int64 }{
			{440000, 0}, {440000, 1}, {440000, 2}, {440000, 3}, {415305, 4}, {10000, 68}, {10000, 0}, {20000000, 70}, {20000000, 127}, {10000000, 82},
		} {
			if got, code := impl.NoteFrequency(temperament, c.pitch, c.note); got != 0 || code != codeRange {
				t.Errorf("NoteFrequency(%s, %d, %d): got %d %d, want an error", temperament.Name, c.pitch, c.note, got, code)
			}
		}
	}
	equal := temperamentTable[0]
	if got, code := impl.NoteFrequency(equal, 702000, 127); got != 0 || code != codeRange {
		t.Errorf("NoteFrequency(equal, 702000, 127): got %d %d, want an error", got, code)
	}
}

func TestP4DeviationFrom(t *testing.T) {
	for _, c := range []struct {
		name                 string
		pitch, note, f, want int64
	}{
		{"equal", 440000, 69, 443000, 118}, {"equal", 440000, 69, 437000, -118}, {"equal", 440000, 69, 440000, 0}, {"equal", 440000, 57, 440000, 12000}, {"equal", 440000, 60, 262000, 25},
		{"just", 440000, 60, 262000, -131}, {"meantone", 440000, 60, 262000, -78}, {"pythagoras", 440000, 60, 262000, 84},
		// notes without a frequency of their own have deviations, too
		{"equal", 440000, 0, 440000, 69000}, {"just", 440000, 0, 440000, 68844}, {"equal", 440000, 127, 10000, -123513}, {"meantone", 440000, 127, 10000, -123582},
		{"just", 440000, 64, 330000, 1}, {"meantone", 440000, 64, 330000, 54},
	} {
		temperament, _ := impl.TemperamentNamed(c.name)
		if got, code := impl.DeviationFrom(temperament, c.pitch, c.note, c.f); got != c.want || code != codeOK {
			t.Errorf("DeviationFrom(%s, %d, %d, %d): got %d %d, want %d", c.name, c.pitch, c.note, c.f, got, code, c.want)
		}
	}
}

func TestP4NearestNote(t *testing.T) {
	for _, c := range []struct {
		name           string
		pitch, f, want int64
	}{
		{"equal", 440000, 440000, 69}, {"equal", 440000, 450000, 69}, {"equal", 440000, 454000, 70}, {"just", 440000, 262000, 60}, {"just", 440000, 454000, 69}, {"pythagoras", 440000, 452892, 70},
		// as far from 69 as from 70
		{"equal", 440000, 452874, 69}, {"equal", 440000, 452890, 69}, {"equal", 440000, 452900, 69}, {"equal", 440000, 452901, 70},
		// the ends of the notes and of the frequencies
		{"equal", 10000, 20000000, 127}, {"equal", 20000000, 10000, 0}, {"just", 10000, 20000000, 127}, {"just", 20000000, 10000, 0},
		{"equal", 440000, 10000, 3}, {"pythagoras", 440000, 10000, 4}, {"equal", 440000, 20000000, 127}, {"equal", 10000, 10000, 69}, {"equal", 20000000, 20000000, 69},
	} {
		temperament, _ := impl.TemperamentNamed(c.name)
		if got, code := impl.NearestNote(temperament, c.pitch, c.f); got != c.want || code != codeOK {
			t.Errorf("NearestNote(%s, %d, %d): got %d %d, want %d", c.name, c.pitch, c.f, got, code, c.want)
		}
	}
	// In this temperament the notes of a pair are equally high.
	pairs := ownTemperaments()[2]
	for f, want := range map[int64]int64{440000: 68, 880000: 80, 110000: 44} {
		if got, code := impl.NearestNote(pairs, 440000, f); got != want || code != codeOK {
			t.Errorf("NearestNote(%v, 440000, %d): got %d %d, want %d", pairs, f, got, code, want)
		}
	}
}

// TestP4NearestNotesAreNearest compares with the deviations from all notes.
func TestP4NearestNotesAreNearest(t *testing.T) {
	random := rand.New(rand.NewSource(10))
	for _, temperament := range slices.Concat(temperamentTable, ownTemperaments()) {
		for range 60 {
			pitch, f := randomFrequency(random), randomFrequency(random)
			played := 12000*logModel(f)>>24 - 12000*logModel(pitch)>>24
			want, least := int64(-1), int64(math.MaxInt64)
			for note := range int64(128) {
				deviation, code := impl.DeviationFrom(temperament, pitch, note, f)
				if code != codeOK || deviation != played-intervalModel(temperament, 69, note) {
					t.Fatalf("DeviationFrom(%v, %d, %d, %d): got %d %d", temperament, pitch, note, f, deviation, code)
				}
				if distance := max(deviation, -deviation); distance < least {
					want, least = note, distance
				}
			}
			if got, code := impl.NearestNote(temperament, pitch, f); got != want || code != codeOK {
				t.Errorf("NearestNote(%v, %d, %d): got %d %d, want %d", temperament, pitch, f, got, code, want)
			}
		}
	}
}

// TestP4NotesAreFoundAgain: each note that has a frequency is the nearest one to it, with no deviation but rounding.
func TestP4NotesAreFoundAgain(t *testing.T) {
	for _, temperament := range temperamentTable {
		for _, pitch := range []int64{10000, 261626, 415000, 440000, 443999, 5000000, 20000000} {
			for note := range int64(128) {
				f, code := impl.NoteFrequency(temperament, pitch, note)
				want, wantCode := impl.Raise(pitch, intervalModel(temperament, 69, note))
				if f != want || code != wantCode {
					t.Errorf("NoteFrequency(%s, %d, %d): got %d %d, want %d %d", temperament.Name, pitch, note, f, code, want, wantCode)
				}
				if code != codeOK {
					continue
				}
				if again, code := impl.NearestNote(temperament, pitch, f); again != note || code != codeOK {
					t.Errorf("NearestNote(%s, %d, %d): got %d %d, want %d", temperament.Name, pitch, f, again, code, note)
				}
				if deviation, code := impl.DeviationFrom(temperament, pitch, note, f); deviation < 0 || deviation > 2 || code != codeOK {
					t.Errorf("DeviationFrom(%s, %d, %d, %d): got %d %d", temperament.Name, pitch, note, f, deviation, code)
				}
			}
		}
	}
}

// temperamentCodes has the error codes of the four functions with a temperament; their other results must be 0 then.
func temperamentCodes(t *testing.T, temperament impl.Temperament, pitch, note, f int64) [4]int64 {
	t.Helper()
	interval, first := impl.NoteInterval(temperament, note, note)
	frequency, second := impl.NoteFrequency(temperament, pitch, note)
	nearest, third := impl.NearestNote(temperament, pitch, f)
	deviation, fourth := impl.DeviationFrom(temperament, pitch, note, f)
	codes := [4]int64{first, second, third, fourth}
	for i, value := range []int64{interval, frequency, nearest, deviation} {
		if codes[i] != codeOK && value != 0 {
			t.Errorf("an error of %v, %d, %d, %d comes with the result %d", temperament, pitch, note, f, value)
		}
	}
	return codes
}

// TestP4ErrorsInOrder: a temperament that is not valid comes before numbers that are out of range.
func TestP4ErrorsInOrder(t *testing.T) {
	for _, bad := range badTemperaments() {
		for _, note := range []int64{0, 69, 128, -1} {
			for _, f := range []int64{9999, 440000, 20000001} {
				if got := temperamentCodes(t, bad, f, note, f); got != [4]int64{codeInvalid, codeInvalid, codeInvalid, codeInvalid} {
					t.Errorf("%v, note %d, frequency %d: got the codes %v", bad, note, f, got)
				}
			}
		}
	}
	equal := temperamentTable[0]
	for _, note := range noNotes {
		if got := temperamentCodes(t, equal, 440000, note, 440000); got != [4]int64{codeRange, codeRange, codeOK, codeRange} {
			t.Errorf("note %d: got the codes %v", note, got)
		}
		for _, pair := range [][2]int64{{note, 60}, {60, note}} {
			if got, code := impl.NoteInterval(equal, pair[0], pair[1]); got != 0 || code != codeRange {
				t.Errorf("NoteInterval(equal, %v): got %d %d, want an error", pair, got, code)
			}
		}
	}
	for _, f := range noFrequencies {
		if got := temperamentCodes(t, equal, f, 69, 440000); got != [4]int64{codeOK, codeRange, codeRange, codeRange} {
			t.Errorf("pitch %d: got the codes %v", f, got)
		}
		if got := temperamentCodes(t, equal, 440000, 69, f); got != [4]int64{codeOK, codeOK, codeRange, codeRange} {
			t.Errorf("frequency %d: got the codes %v", f, got)
		}
	}
	for _, f := range []int64{10000, 20000000} {
		if got := temperamentCodes(t, equal, f, 69, f); got != [4]int64{} {
			t.Errorf("frequency %d: got the codes %v", f, got)
		}
	}
	for _, note := range []int64{0, 127} {
		if got, code := impl.DeviationFrom(equal, 440000, note, 440000); got != 69000-1000*note || code != codeOK {
			t.Errorf("DeviationFrom(equal, 440000, %d, 440000): got %d %d", note, got, code)
		}
	}
}

func TestP4TemperamentTexts(t *testing.T) {
	for i, want := range temperamentTable {
		got, ok := impl.ReadTemperament(temperamentTexts[i])
		if !ok || !sameTemperaments(got, want) {
			t.Errorf("ReadTemperament(%q): got %v %v", temperamentTexts[i], got, ok)
		}
	}
	for _, own := range ownTemperaments() {
		text := impl.TemperamentText(own)
		if want := own.Name + " " + impl.ListText(own.Offsets); text != want {
			t.Errorf("TemperamentText(%v): got %q, want %q", own, text, want)
		}
		if got, ok := impl.ReadTemperament(text); !ok || !sameTemperaments(got, own) {
			t.Errorf("ReadTemperament(%q): got %v %v", text, got, ok)
		}
	}
	for _, bad := range badTemperaments() {
		if text := impl.TemperamentText(bad); text != "" {
			t.Errorf("TemperamentText(%v): got %q, want none", bad, text)
		}
		if got, ok := impl.ReadTemperament(bad.Name + " " + impl.ListText(bad.Offsets)); ok || got.Name != "" || got.Offsets != nil {
			t.Errorf("ReadTemperament of %v: got %v %v, want none", bad, got, ok)
		}
	}
}

func TestP4ReadTemperament(t *testing.T) {
	const zeros = "0,0,0,0,0,0,0,0,0,0,0,0"
	for _, s := range []string{
		"", " ", "own", "own ", "own -", " " + zeros, zeros, "own" + zeros, "own  " + zeros, " own " + zeros, "own " + zeros + " ", "own " + zeros + "\n", "own\t" + zeros, "own," + zeros,
		"own 0,0,0", "own " + zeros + ",0", "own 0,0,0,0,0,0,0,0,0,0,0", "own " + zeros + ",", "own ," + zeros, "own 0, 0,0,0,0,0,0,0,0,0,0,0", "own own " + zeros, "own " + zeros + " " + zeros,
		"own 0,0,0,0,0,0,0,0,0,0,0,501", "own -501,0,0,0,0,0,0,0,0,0,0,0", "own 00,0,0,0,0,0,0,0,0,0,0,0", "own -0,0,0,0,0,0,0,0,0,0,0,0", "own +1,0,0,0,0,0,0,0,0,0,0,0", "own 1.0,0,0,0,0,0,0,0,0,0,0,0",
		"Own " + zeros, "7own " + zeros, "own-a " + zeros, "abcdefghijk " + zeros, "\xff " + zeros, "own 0;0;0;0;0;0;0;0;0;0;0;0", strings.Repeat("0,", 10000), "own " + strings.Repeat("0,", 10000),
	} {
		if got, ok := impl.ReadTemperament(s); ok || got.Name != "" || got.Offsets != nil {
			t.Errorf("ReadTemperament(%q): got %v %v, want none", s, got, ok)
		}
	}
	got, ok := impl.ReadTemperament("own 0,0,0,0,0,0,0,0,0,0,-500,500")
	if want := (impl.Temperament{Name: "own", Offsets: []int64{0, 0, 0, 0, 0, 0, 0, 0, 0, 0, -500, 500}}); !ok || !sameTemperaments(got, want) {
		t.Errorf("ReadTemperament: got %v %v, want %v", got, ok, want)
	}
}

// temperamentResults has the results of all functions of the chapter for valid and invalid arguments.
func temperamentResults() []any {
	var all []any
	add := func(result, code int64) { all = append(all, result, code) }
	show := func(t impl.Temperament) { all = append(all, t.Name, impl.ListText(t.Offsets)) }
	temperaments := slices.Concat(temperamentTable[1:2], ownTemperaments()[2:4], badTemperaments()[:10])
	for _, note := range edgeNotes {
		all = append(all, impl.NoteName(note))
		for _, other := range edgeNotes {
			scale, code := impl.ScaleNotes(note, other)
			all = append(all, impl.ListText(scale), code)
			for _, t := range temperaments {
				add(impl.NoteInterval(t, note, other))
			}
		}
		for _, f := range edgeFrequencies {
			for _, t := range temperaments {
				add(impl.NoteFrequency(t, f, note))
				add(impl.DeviationFrom(t, f, note, 440000))
				add(impl.DeviationFrom(t, 440000, note, f))
				add(impl.NearestNote(t, f, note))
				add(impl.NearestNote(t, 440000, f))
			}
		}
	}
	for _, t := range temperaments {
		all = append(all, impl.ValidTemperament(t), impl.TemperamentText(t), impl.SameTemperament(t, temperaments[0]))
	}
	for _, s := range slices.Concat(edgeTexts, pointedTexts, temperamentTexts, impl.TemperamentNames()) {
		note, isName := impl.NoteNamed(s)
		read, isText := impl.ReadTemperament(s)
		named, code := impl.TemperamentNamed(s)
		all = append(all, note, isName, isText, code)
		show(read)
		show(named)
	}
	return all
}

// TestP1TemperamentsReturn: every function of chapter 3 returns for all arguments, and the same again.
func TestP1TemperamentsReturn(t *testing.T) {
	first := temperamentResults()
	if again := temperamentResults(); !slices.Equal(first, again) {
		t.Error("other results for equal arguments")
	}
}

// TestP1TemperamentsKeepTheirArguments: neither the offsets nor the capacity behind them are modified.
func TestP1TemperamentsKeepTheirArguments(t *testing.T) {
	for size := range 16 {
		whole := make([]int64, 16)
		for i := range whole {
			whole[i] = int64(31*i - 200)
		}
		before := slices.Clone(whole)
		own := impl.Temperament{Name: "own", Offsets: whole[:size]}
		impl.ValidTemperament(own)
		impl.SameTemperament(own, own)
		impl.NoteInterval(own, 60, 67)
		impl.NoteFrequency(own, 440000, 60)
		impl.NearestNote(own, 440000, 262000)
		impl.DeviationFrom(own, 440000, 60, 262000)
		impl.TemperamentText(own)
		if !slices.Equal(whole, before) {
			t.Fatalf("a temperament with %d offsets: they are now %v", size, whole)
		}
	}
}

// overwrite replaces all elements of a list and of the capacity behind it.
func overwrite[T any](list []T, value T) {
	whole := list[:cap(list)]
	for i := range whole {
		whole[i] = value
	}
}

// TestP1TemperamentResultsAreNew: a result that is overwritten changes no later result.
func TestP1TemperamentResultsAreNew(t *testing.T) {
	overwrite(impl.TemperamentNames(), "x")
	if got := impl.TemperamentNames(); !slices.Equal(got, []string{"equal", "just", "meantone", "pythagoras"}) {
		t.Errorf("TemperamentNames: got %q", got)
	}
	for i, want := range temperamentTable {
		named, _ := impl.TemperamentNamed(want.Name)
		other, _ := impl.TemperamentNamed(want.Name)
		overwrite(named.Offsets, 99)
		again, _ := impl.TemperamentNamed(want.Name)
		if !sameTemperaments(again, want) || !sameTemperaments(other, want) {
			t.Errorf("TemperamentNamed(%q): got %v and %v", want.Name, other, again)
		}
		read, _ := impl.ReadTemperament(temperamentTexts[i])
		overwrite(read.Offsets, 99)
		if again, _ := impl.ReadTemperament(temperamentTexts[i]); !sameTemperaments(again, want) {
			t.Errorf("ReadTemperament(%q): got %v", temperamentTexts[i], again)
		}
	}
	for kind, want := range scaleTable {
		notes, _ := impl.ScaleNotes(0, int64(kind)+1)
		overwrite(notes, 99)
		if again, _ := impl.ScaleNotes(0, int64(kind)+1); !slices.Equal(again, want) {
			t.Errorf("ScaleNotes(0, %d): got %v", kind+1, again)
		}
	}
}
