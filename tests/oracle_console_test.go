package tests

import (
	"fmt"
	"regexp"
	"slices"
	"strconv"
	"strings"
	"sync"
	"testing"

	"loop.example/g01313/impl"
)

// Lines are told here by forms that a line has to match as a whole. What they do is told by the functions
// of chapters 1 to 10, which have tests of their own.

// deskLine is a line of the document's list. In its form T stands for a text, and W for a whole number.
type deskLine struct {
	command string
	hasText bool
	pattern *regexp.Regexp
}

// deskLines are all lines of the list.
var deskLines = sync.OnceValue(func() []deskLine {
	lines := []deskLine{}
	parts := strings.NewReplacer("T", `[^ ]*`, "W", `(0|-?[1-9][0-9]{0,8})`)
	for _, form := range []string{
		"number T", "root W W", "plus T", "times T", "over T", "power W", "image W", "conjugate", "invert", "character W W W", "back",
		"value W", "jacobi W", "ring( W)*", "stickelberger W", "turn", "act", "unit W W", "show", "look", "see", "trace", "norm", "degree",
		"content", "minimal", "isunit", "exponents", "exact", "count W W W", "periods W W", "powers W W", "curve W W", "bernoulli W",
		"irregular W", "reset",
	} {
		lines = append(lines, deskLine{
			command: strings.TrimRight(form, "TW ()*"),
			hasText: strings.HasSuffix(form, "T"),
			pattern: regexp.MustCompile(`^` + parts.Replace(form) + `$`),
		})
	}
	return lines
})

// told writes a result as the document's list says.
func told[T any](result T, code int64) (string, int64) {
	switch x := any(result).(type) {
	case bool:
		return map[bool]string{true: "yes", false: "no"}[x], code
	case []int64:
		if len(x) == 0 {
			return "none", code
		}
		return strings.Trim(fmt.Sprint(x), "[]"), code
	case impl.Cyclo:
		return spell(x), code
	case impl.Character:
		return fmt.Sprintf("%d %d %d", x.Prime, x.Order, x.Power), code
	case impl.Ring:
		return strings.Trim(fmt.Sprint(append([]int64{x.Modulus}, x.Parts...)), "[]"), code
	}
	return fmt.Sprint(result), code
}

// laid lays a result on its place on the desk, and writes it.
func laid[T any](place *T) func(result T, code int64) (string, int64) {
	return func(result T, code int64) (string, int64) {
		*place = result
		return told(result, code)
	}
}

// where returns a result, and a code that tells whether a condition holds.
func where[T any](result T, holds bool) (T, int64) {
	if holds {
		return result, impl.ErrNone
	}
	return result, impl.ErrInvalid
}

// ringFrom returns the struct with the first number as Modulus and the others as Parts.
func ringFrom(w []int64) impl.Ring {
	if len(w) == 0 {
		return impl.Ring{}
	}
	return impl.Ring{Modulus: w[0], Parts: w[1:]}
}

// doLine does on the desk what a command asks for with the number of its text, if it has one, and with its
// whole numbers. It returns the output and a code. What it has done with another code than ErrNone does not
// count.
func doLine(d *impl.Desk, command string, x impl.Cyclo, w []int64) (string, int64) {
	asNumber, asCharacter, asRing := laid(&d.Number), laid(&d.Character), laid(&d.Ring)
	switch command {
	case "number":
		return asNumber(x, impl.ErrNone)
	case "root":
		return asNumber(impl.PowerOfZ(w[0], w[1]))
	case "plus":
		return asNumber(impl.AddCyclos(d.Number, x, 1))
	case "times":
		return asNumber(impl.MultiplyCyclos(d.Number, x))
	case "over":
		return asNumber(impl.DivideCyclos(d.Number, x))
	case "power":
		return asNumber(impl.PowerCyclo(d.Number, w[0]))
	case "image":
		return asNumber(impl.GaloisImage(d.Number, w[0]))
	case "conjugate":
		return asNumber(impl.ConjugateOf(d.Number))
	case "invert":
		return asNumber(impl.InverseOf(d.Number))
	case "value":
		return asNumber(impl.CharacterAt(d.Character, w[0]))
	case "jacobi":
		return asNumber(impl.JacobiSum(d.Character, impl.Character{Prime: d.Character.Prime, Order: d.Character.Order, Power: w[0]}))
	case "act":
		return asNumber(impl.ActOnCyclo(d.Ring, d.Number))
	case "unit":
		return asNumber(impl.CyclotomicUnit(w[0], w[1]))
	case "character":
		c := impl.Character{Prime: w[0], Order: w[1], Power: w[2]}
		return asCharacter(where(c, impl.IsCharacter(c)))
	case "back":
		return asCharacter(impl.InverseCharacter(d.Character))
	case "ring":
		return asRing(where(ringFrom(w), impl.IsRing(ringFrom(w))))
	case "stickelberger":
		return asRing(impl.StickelbergerOf(w[0]))
	case "turn":
		return asRing(impl.TurnRing(d.Ring))
	case "reset":
		*d = firstDesk()
		return "ok", impl.ErrNone
	}
	return doAsk(*d, command, w)
}

// doAsk does the same for the commands that leave the desk as it is.
func doAsk(d impl.Desk, command string, w []int64) (string, int64) {
	switch command {
	case "show":
		return told(d.Number, impl.ErrNone)
	case "look":
		return told(d.Character, impl.ErrNone)
	case "see":
		return told(d.Ring, impl.ErrNone)
	case "trace":
		return told(impl.TraceOf(d.Number))
	case "norm":
		return told(impl.NormOf(d.Number))
	case "degree":
		return told(impl.DegreeOf(d.Number))
	case "content":
		return told(impl.ContentOf(d.Number))
	case "minimal":
		return told(impl.MinimalOf(d.Number))
	case "isunit":
		return told(impl.IsUnit(d.Number))
	case "exponents":
		return told(impl.ExponentsOf(d.Character))
	case "exact":
		return told(impl.ExactOrder(d.Character))
	case "count":
		return told(impl.CountByJacobi(w[0], w[1], w[2]))
	case "periods":
		return told(impl.PeriodPolynomial(w[0], w[1]))
	case "powers":
		return told(impl.PowersOf(w[0], w[1]))
	case "curve":
		return told(impl.CurvePoints(w[0], w[1]))
	case "irregular":
		return told(impl.IrregularOf(w[0]))
	case "bernoulli":
		above, below, code := impl.BernoulliOf(w[0])
		return fmt.Sprintf("%d/%d", above, below), code
	}
	panic("the document has no line " + command)
}

// wantLine returns the desk after a line, and the output.
func wantLine(d impl.Desk, line string) (impl.Desk, string) {
	for _, one := range deskLines() {
		if !one.pattern.MatchString(line) {
			continue
		}
		words := strings.Split(line, " ")[1:]
		x, wholes := impl.Cyclo{}, []int64{}
		if one.hasText {
			var code int64
			if x, code = impl.ParseCyclo(words[0]); code != impl.ErrNone {
				return d, "error"
			}
			words = nil
		}
		for _, word := range words {
			whole, _ := strconv.ParseInt(word, 10, 64)
			wholes = append(wholes, whole)
		}
		after := copyOfDesk(d)
		if output, code := doLine(&after, one.command, x, wholes); code == impl.ErrNone {
			return after, output
		}
	}
	return d, "error"
}

// wantConsole returns the desk after the lines of a text, their outputs, and whether the text keeps the
// limits. It takes the text byte by byte.
func wantConsole(text string) (impl.Desk, string, bool) {
	desk, outputs, line, count := firstDesk(), "", "", 0
	end := func() {
		if count++; line != "" {
			var output string
			desk, output = wantLine(desk, line)
			outputs += output + "\n"
		}
		line = ""
	}
	if len(text) > 4000 {
		return impl.Desk{}, "", false
	}
	for i := range len(text) {
		if text[i] == 10 {
			end()
		} else {
			line += text[i : i+1]
		}
	}
	if line != "" {
		end()
	}
	if count > 40 {
		return impl.Desk{}, "", false
	}
	return desk, outputs, true
}

// firstDesk returns the new desk as the document tells it.
func firstDesk() impl.Desk {
	return impl.Desk{
		Number:    number(5, 1, -1),
		Character: impl.Character{Prime: 5, Order: 4, Power: 1},
		Ring:      ringOf(5, 1, 1, 1, 1),
	}
}

func copyOfDesk(d impl.Desk) impl.Desk {
	d.Number.Parts = slices.Clone(d.Number.Parts)
	d.Ring.Parts = slices.Clone(d.Ring.Parts)
	return d
}

func sameDesk(d impl.Desk, e impl.Desk) bool {
	return sameCyclo(d.Number, e.Number) && d.Character == e.Character && sameRing(d.Ring, e.Ring)
}

// wantDesk checks a desk and an output.
func wantDesk(t *testing.T, what string, d impl.Desk, output string, want impl.Desk, wantOutput string) {
	t.Helper()
	if !sameDesk(d, want) || output != wantOutput {
		t.Errorf("%s = %v, %q; want %v, %q", what, d, output, want, wantOutput)
	}
}

// wantWrong checks that a line is wrong on a desk.
func wantWrong(t *testing.T, d impl.Desk, line string) {
	t.Helper()
	before := copyOfDesk(d)
	after, output := impl.RunLine(d, line)
	wantDesk(t, fmt.Sprintf("RunLine(%v, %q)", before, line), after, output, before, "error")
	if !sameDesk(d, before) {
		t.Fatalf("RunLine(%v, %q) has changed the desk to %v", before, line, d)
	}
}

// deskWith returns the desk after lines with semicolons between them, none of which may be wrong.
func deskWith(t *testing.T, lines string) impl.Desk {
	t.Helper()
	d := impl.NewDesk()
	for line := range strings.SplitSeq(lines, ";") {
		if line == "" {
			continue
		}
		var output string
		if d, output = impl.RunLine(d, line); output == "error" {
			t.Fatalf("the line %q of %q is wrong", line, lines)
		}
	}
	return d
}
