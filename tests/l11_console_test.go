package tests

import (
	"fmt"
	"slices"
	"strings"
	"testing"

	"loop.example/g01313/impl"
)

func TestLimitsOfTheConsole(t *testing.T) {
	if impl.MaxConsole != 4000 || impl.MaxLines != 40 {
		t.Errorf("the limits are %d and %d", impl.MaxConsole, impl.MaxLines)
	}
}

func TestNewDesk(t *testing.T) {
	for range 2 {
		d := impl.NewDesk()
		if !sameDesk(d, firstDesk()) || !impl.IsDesk(d) {
			t.Fatalf("NewDesk() = %v", d)
		}
		fillRow(d.Number.Parts[:cap(d.Number.Parts)], 99)
		if !sameRing(d.Ring, firstDesk().Ring) {
			t.Fatalf("the number and the element of the new desk share memory: %v", d)
		}
		fillRow(d.Ring.Parts[:cap(d.Ring.Parts)], 98)
	}
}

// someDesks returns desks with numbers of all orders, characters of all primes and elements of all Moduli.
func someDesks() []impl.Desk {
	var s sequence
	desks := []impl.Desk{impl.NewDesk(), {Number: number(1), Character: impl.Character{Prime: 3, Order: 1}, Ring: ringOf(2)}}
	characters := []impl.Character{}
	everyCharacter(func(c impl.Character) { characters = append(characters, c) })
	for i, c := range characters {
		order, modulus := int64(i%impl.MaxOrder+1), int64(i%(impl.MaxModulus-1)+2)
		for _, limit := range []int64{1, 20, top} {
			desks = append(desks, impl.Desk{Number: s.cyclo(order, limit), Character: c, Ring: s.ring(modulus, limit)})
		}
	}
	return append(desks, impl.Desk{
		Number:    number(16, top, -top, top, -top, top, -top, top, -top),
		Character: impl.Character{Prime: 61, Order: 15, Power: 14},
		Ring:      filledRing(40, -top),
	})
}

// noDesks returns structs that are none in one of their parts, and the zero value.
func noDesks() []impl.Desk {
	list := []impl.Desk{{}, {Number: number(5, 1)}, {Character: firstDesk().Character}, {Ring: ringOf(5)}}
	add := func(change func(d *impl.Desk)) {
		d := firstDesk()
		change(&d)
		list = append(list, d)
	}
	for _, x := range noNumbers() {
		add(func(d *impl.Desk) { d.Number = x })
	}
	for _, c := range noCharacters() {
		add(func(d *impl.Desk) { d.Character = c })
	}
	for _, x := range noRings() {
		add(func(d *impl.Desk) { d.Ring = x })
	}
	return list
}

func TestIsDesk(t *testing.T) {
	for _, d := range someDesks() {
		if !impl.IsDesk(d) {
			t.Errorf("%v is no desk", d)
		}
	}
	for _, d := range noDesks() {
		if impl.IsDesk(d) {
			t.Errorf("%v is a desk", d)
		}
	}
}

func TestLinesOnNoDesk(t *testing.T) {
	for _, d := range noDesks() {
		for _, line := range []string{"", " ", "fly", "show", "look", "see", "norm", "reset", "number 5@1:0:0:0", "character 5 4 1", "ring 5 1 1 1 1", "bernoulli 2"} {
			after, output := impl.RunLine(d, line)
			wantDesk(t, fmt.Sprintf("RunLine(%v, %q)", d, line), after, output, impl.Desk{}, "")
		}
	}
}

// plainLine is a line after other ones, its output, and what it lays on the desk: X, C, R, all for a new
// desk, or nothing.
type plainLine struct {
	before string
	line   string
	output string
	lays   string
}

// numberLines are lines that change the number of the desk.
func numberLines() []plainLine {
	return []plainLine{
		{"", "number 3@4:-6", "3@4:-6", "X"},
		{"", "number 1@0", "1@0", "X"},
		{"", "number 1@1000000000", "1@1000000000", "X"},
		{"", "number 16@0:0:0:0:0:0:0:-1000000000", "16@0:0:0:0:0:0:0:-1000000000", "X"},
		{"", "root 5 7", "5@0:0:1:0", "X"},
		{"", "root 12 -1", "12@0:1:0:-1", "X"},
		{"", "root 1 0", "1@1", "X"},
		{"", "root 16 1000", "16@-1:0:0:0:0:0:0:0", "X"},
		{"", "root 7 -1000", "7@0:1:0:0:0:0", "X"},
		{"", "plus 5@1:2:3:4", "5@2:1:3:4", "X"},
		{"", "plus 5@-1:1:0:0", "5@0:0:0:0", "X"},
		{"number 1@999999999", "plus 1@1", "1@1000000000", "X"},
		{"", "times 5@1:1:0:0", "5@1:0:-1:0", "X"},
		{"number 1@100000", "times 1@-10000", "1@-1000000000", "X"},
		{"", "over 5@1:-1:0:0", "5@1:0:0:0", "X"},
		{"number 5@5:0:0:0", "over 5@1:-1:0:0", "5@4:3:2:1", "X"},
		{"number 5@0:0:0:0", "over 5@1:-1:0:0", "5@0:0:0:0", "X"},
		{"", "power 3", "5@1:-3:3:-1", "X"},
		{"", "power 0", "5@1:0:0:0", "X"},
		{"", "power 1", "5@1:-1:0:0", "X"},
		{"root 5 1", "power 64", "5@-1:-1:-1:-1", "X"},
		{"number 1@2", "power 29", "1@536870912", "X"},
		{"", "image 1", "5@1:-1:0:0", "X"},
		{"", "image 2", "5@1:0:-1:0", "X"},
		{"", "image 4", "5@2:1:1:1", "X"},
		{"number 1@7", "image 1", "1@7", "X"},
		{"", "conjugate", "5@2:1:1:1", "X"},
		{"root 4 1", "conjugate", "4@0:-1", "X"},
		{"unit 5 2", "invert", "5@0:-1:0:-1", "X"},
		{"number 2@-1", "invert", "2@-1", "X"},
		{"", "value 2", "4@0:1", "X"},
		{"", "value 1", "4@1:0", "X"},
		{"", "value -1", "4@-1:0", "X"},
		{"", "value 0", "4@0:0", "X"},
		{"", "value 10", "4@0:0", "X"},
		{"", "value 1000000", "4@0:0", "X"},
		{"", "value -999999", "4@1:0", "X"},
		{"", "jacobi 0", "4@-1:0", "X"},
		{"", "jacobi 1", "4@-1:-2", "X"},
		{"", "jacobi 2", "4@1:2", "X"},
		{"", "jacobi 3", "4@1:0", "X"},
		{"character 7 3 1", "jacobi 1", "3@-1:-3", "X"},
		{"", "act", "5@5:0:0:0", "X"},
		{"ring 5 1 2 0 0;unit 5 2", "act", "5@1:0:1:1", "X"},
		{"ring 5 0 0 0 0", "act", "5@1:0:0:0", "X"},
		{"ring 2 60;number 2@-1", "act", "2@1", "X"},
		{"", "unit 5 2", "5@1:1:0:0", "X"},
		{"", "unit 8 5", "8@0:1:1:1", "X"},
		{"", "unit 2 1", "2@1", "X"},
		{"", "unit 16 15", "16@0:0:0:0:0:0:0:1", "X"},
	}
}

// otherLines are lines that change the character or the element of the desk, or make it new.
func otherLines() []plainLine {
	return []plainLine{
		{"", "character 7 3 2", "7 3 2", "C"},
		{"", "character 3 1 0", "3 1 0", "C"},
		{"", "character 61 15 14", "61 15 14", "C"},
		{"", "back", "5 4 3", "C"},
		{"back", "back", "5 4 1", "C"},
		{"character 7 3 0", "back", "7 3 0", "C"},
		{"", "ring 8 1 2 -3 0", "8 1 2 -3 0", "R"},
		{"", "ring 2 0", "2 0", "R"},
		{"", "ring 2 999999999", "2 999999999", "R"},
		{"", "ring 2 -999999999", "2 -999999999", "R"},
		{"", "ring 40 1 2 3 4 5 6 7 8 9 10 11 12 13 14 15 16", "40 1 2 3 4 5 6 7 8 9 10 11 12 13 14 15 16", "R"},
		{"", "stickelberger 5", "5 1 3 2 4", "R"},
		{"", "stickelberger 2", "2 1", "R"},
		{"", "stickelberger 40", "40 1 27 23 9 11 37 33 19 21 7 3 29 31 17 13 39", "R"},
		{"", "turn", "5 1 1 1 1", "R"},
		{"ring 5 1 2 3 4", "turn", "5 1 3 2 4", "R"},
		{"ring 7 -1 2 -3 4 -5 6", "turn", "7 -1 4 -5 2 -3 6", "R"},
		{"", "reset", "ok", "all"},
		{"number 1@1;character 7 3 2;ring 3 0 0", "reset", "ok", "all"},
	}
}

// deskQuestions are lines that tell of the parts of the desk.
func deskQuestions() []plainLine {
	return []plainLine{
		{"", "show", "5@1:-1:0:0", ""},
		{"number 4@-1000000000:0", "show", "4@-1000000000:0", ""},
		{"", "look", "5 4 1", ""},
		{"character 61 12 0", "look", "61 12 0", ""},
		{"", "see", "5 1 1 1 1", ""},
		{"ring 3 -1 0", "see", "3 -1 0", ""},
		{"", "trace", "5", ""},
		{"root 5 1", "trace", "-1", ""},
		{"number 7@1000000000:-1000000000:-1000000000:-1000000000:0:0", "trace", "9000000000", ""},
		{"number 4@0:3", "trace", "0", ""},
		{"", "norm", "5", ""},
		{"number 4@1:2", "norm", "5", ""},
		{"number 1@-3", "norm", "-3", ""},
		{"number 3@0:0", "norm", "0", ""},
		{"", "degree", "4", ""},
		{"number 5@2:0:0:0", "degree", "1", ""},
		{"number 12@0:0:0:1", "degree", "2", ""},
		{"", "content", "1", ""},
		{"number 3@4:-6", "content", "2", ""},
		{"number 3@0:0", "content", "0", ""},
		{"", "minimal", "5 -10 10 -5 1", ""},
		{"unit 5 2", "minimal", "1 -2 4 -3 1", ""},
		{"number 1@0", "minimal", "0 1", ""},
		{"number 5@-7:0:0:0", "minimal", "7 1", ""},
		{"", "isunit", "no", ""},
		{"unit 5 2", "isunit", "yes", ""},
		{"number 2@-1", "isunit", "yes", ""},
		{"number 7@0:0:0:0:0:0", "isunit", "no", ""},
		{"", "exponents", "0 1 3 2", ""},
		{"character 7 3 1", "exponents", "0 2 1 1 2 0", ""},
		{"character 3 1 0", "exponents", "0 0", ""},
		{"", "exact", "4", ""},
		{"character 5 4 2", "exact", "2", ""},
		{"character 61 15 10", "exact", "3", ""},
		{"character 61 15 0", "exact", "1", ""},
	}
}

// freeQuestions are lines that tell of nothing on the desk.
func freeQuestions() []plainLine {
	return []plainLine{
		{"", "count 5 2 2", "4", ""},
		{"", "count 7 2 3", "11", ""},
		{"", "count 7 3 2", "11", ""},
		{"", "count 3 1 1", "3", ""},
		{"", "periods 5 2", "-1 1 1", ""},
		{"", "periods 7 3", "-1 -2 1 1", ""},
		{"", "periods 3 1", "1 1", ""},
		{"", "powers 7 3", "0 1 6", ""},
		{"", "powers 3 1", "0 1 2", ""},
		{"", "powers 5 60", "0 1", ""},
		{"", "curve 7 3", "9", ""},
		{"", "curve 5 1", "6", ""},
		{"", "curve 7 60", "12", ""},
		{"", "bernoulli 0", "1/1", ""},
		{"", "bernoulli 1", "-1/2", ""},
		{"", "bernoulli 2", "1/6", ""},
		{"", "bernoulli 3", "0/1", ""},
		{"", "bernoulli 12", "-691/2730", ""},
		{"", "bernoulli 20", "-174611/330", ""},
		{"", "irregular 37", "32", ""},
		{"", "irregular 59", "44", ""},
		{"", "irregular 3", "none", ""},
		{"", "irregular 5", "none", ""},
		{"", "irregular 61", "none", ""},
	}
}

func plainLines() []plainLine {
	return slices.Concat(numberLines(), otherLines(), deskQuestions(), freeQuestions())
}

// checkLaid checks that the desk after a line is that before it, but for what the line lays there, which has
// the text that is the output.
func checkLaid(t *testing.T, one plainLine, before impl.Desk, after impl.Desk) {
	t.Helper()
	var text string
	switch one.lays {
	case "X":
		text, _ = told(after.Number, impl.ErrNone)
		before.Number = after.Number
	case "C":
		text, _ = told(after.Character, impl.ErrNone)
		before.Character = after.Character
	case "R":
		text, _ = told(after.Ring, impl.ErrNone)
		before.Ring = after.Ring
	case "all":
		before, text = firstDesk(), one.output
	default:
		text = one.output
	}
	if !sameDesk(before, after) || text != one.output {
		t.Errorf("after %q and %q the desk is %v", one.before, one.line, after)
	}
}

func TestPlainLines(t *testing.T) {
	used := map[string]bool{}
	for _, one := range plainLines() {
		d := deskWith(t, one.before)
		kept := copyOfDesk(d)
		after, output := impl.RunLine(d, one.line)
		if output != one.output || !impl.IsDesk(after) {
			t.Errorf("after %q RunLine %q = %v, %q; want %q", one.before, one.line, after, output, one.output)
		}
		checkLaid(t, one, d, after)
		if !sameDesk(d, kept) {
			t.Errorf("RunLine %q has changed its desk to %v", one.line, d)
		}
		want, wantOutput := wantLine(d, one.line)
		wantDesk(t, "RunLine "+one.line, after, output, want, wantOutput)
		used[strings.Split(one.line, " ")[0]] = true
	}
	for _, one := range deskLines() {
		if !used[one.command] {
			t.Errorf("no plain line has the command %s", one.command)
		}
	}
}

// wrongForms returns lines that are none, made of a line that is one.
func wrongForms(line string) []string {
	words := strings.Split(line, " ")
	command := words[0]
	rest := strings.TrimPrefix(line, command)
	list := []string{
		strings.Join(words[:len(words)-1], " "),
		line + " ", line + "  ", line + " 0", line + " 1", line + " x", line + " 1@1", line + " " + line, " " + line, "  " + line,
		strings.ToUpper(command) + rest, strings.ToUpper(command[:1]) + command[1:] + rest,
		strings.ToUpper(line) + "!", command[:len(command)-1] + rest, command + "x" + rest, "x" + command + rest,
		line + "\n", "\n" + line, line + "\r", line + "\t", "\t" + line, line + "\x00", line + "\xff", "\ufeff" + line,
		command + "\u00a0" + rest, command + "\n" + rest, command + "," + rest,
	}
	for i := range line {
		if line[i] == ' ' {
			list = append(list, line[:i]+" "+line[i:], line[:i]+"\t"+line[i+1:], line[:i]+"\n"+line[i+1:], line[:i]+line[i+1:], line[:i])
		}
	}
	return list
}

// A word is missing, or there is one too many, which may be empty, or the command is none.
func TestWrongForms(t *testing.T) {
	for _, one := range plainLines() {
		d := deskWith(t, one.before)
		for _, line := range wrongForms(one.line) {
			wantWrong(t, d, line)
		}
	}
	for _, line := range []string{
		"", " ", "  ", "     ", "\t", "\n", "\r\n", "\x00", "\xff\xfe", "fly", "help", "quit", "none", "ok", "error", "0", "1", "-1", "5@1:-1:0:0",
		"number", "number 5@1:-1:0:0 5@1:-1:0:0", "numbers 5@1:-1:0:0", "newdesk", "NUMBER 3@4:-6", "Show", "sHOW", "isUnit", "units 5 2",
		"number\u00205@1:-1:0:0 ", "show;look", "show,", "show.", "sh\u00f6w", "\u0455how", "trace trace", "size", "inverse", "gauss 1", "ring",
		"ring ", "root", "root 5", "power", "character", "character 5", "character 5 4", "count 5 2", "periods 5", "unit 5", "curve 7",
		strings.Repeat("x", 5000), strings.Repeat(" ", 5000), "show" + strings.Repeat(" ", 5000), "ring" + strings.Repeat(" 1", 5000),
	} {
		wantWrong(t, impl.NewDesk(), line)
		wantWrong(t, deskWith(t, "number 7@1:2:3:4:5:6;character 7 3 2;ring 3 -1 2"), line)
	}
}

// noWholes are no whole numbers in decimal, without superfluous leading zeros and with at most nine digits.
func noWholes() []string {
	return []string{
		"", "-", "+", "--1", "+1", "-+1", "+-1", "01", "-01", "00", "-00", "-0", "+0", "0000000001", "000000001", "1.0", "1.", ".1", "1e0", "0x1", "0b1",
		"0o1", "1_0", "1-", "-1-", "1a", "a", "x", "A", "B", "K", "N", "P", "1/1", "1:1", "1,1", "\u0661", "\uff11", "\u22121", "1\t", "\t1", "1\n", "\n1",
		"1\r", "1\x00", "\x001", "1\xff", "1000000000", "-1000000000", "1000000001", "1111111111", "9999999999", "-9999999999",
		"2147483648", "4294967297", "9223372036854775807", "-9223372036854775808", "9223372036854775808", "18446744073709551617",
		"100000000000000000000000000000000000000005",
	}
}

func TestWrongWholes(t *testing.T) {
	for _, one := range plainLines() {
		d := deskWith(t, one.before)
		words := strings.Split(one.line, " ")
		if strings.Contains(one.line, "@") {
			continue
		}
		for i := range words[1:] {
			for _, bad := range noWholes() {
				changed := slices.Clone(words)
				changed[i+1] = bad
				wantWrong(t, d, strings.Join(changed, " "))
			}
		}
	}
	// Nine digits are read everywhere, but may be refused by the function.
	for _, line := range []string{"value 999999999", "power -999999999", "stickelberger 999999999", "count 999999999 1 1", "ring 999999999"} {
		wantWrong(t, impl.NewDesk(), line)
	}
	d, output := impl.RunLine(impl.NewDesk(), "ring 3 -999999999 999999999")
	want := firstDesk()
	want.Ring = ringOf(3, -999999999, 999999999)
	wantDesk(t, "ring", d, output, want, "3 -999999999 999999999")
}

// What has no text of a number is refused, and the order of a number is asked for by the function.
func TestWrongTexts(t *testing.T) {
	texts := []string{
		"", "@", ":", "1", "0", "5", "-1", "1@", "@1", "5@", "5@1", "5@1:2:3", "5@1:2:3:4:5", "5@1:2:3:", "5@:1:2:3", "5@1::2:3", "5:1@2:3:4",
		"5@1:-1:0:00", "5@1:-1:0:-0", "5@01:-1:0:0", "05@1:-1:0:0", "+5@1:-1:0:0", "5@+1:-1:0:0", "-5@1:-1:0:0", "0@1", "17@1", "18@1:0:0:0:0:0",
		"1@1000000001", "1@-1000000001", "5@0:0:0:1000000001", "1@99999999999999999999", "5@1,-1,0,0", "5@1;-1;0;0", "5@1.0:0:0:0", "5@a:b:c:d",
		"5@1:-1:0:0\t", "\t5@1:-1:0:0", "5@1:-1:0:0\n", "5@1:-1:0:0\x00", "5@1:-1:0:0\xff", "5\uff201:-1:0:0", "X", "TEXT", "5@1:-1:0:0@", "5@@1:-1:0:0",
	}
	for _, command := range []string{"number", "plus", "times", "over"} {
		for _, text := range texts {
			wantWrong(t, impl.NewDesk(), command+" "+text)
		}
	}
	for n := int64(1); n <= impl.MaxOrder; n++ {
		d := impl.NewDesk()
		d.Number = number(n, 1)
		for m := int64(1); m <= impl.MaxOrder; m++ {
			text := spell(number(m, 1))
			for _, command := range []string{"plus", "times", "over"} {
				if m != n {
					wantWrong(t, d, command+" "+text)
				}
			}
			after, output := impl.RunLine(d, "number "+text)
			want := copyOfDesk(d)
			want.Number = number(m, 1)
			wantDesk(t, "number "+text, after, output, want, text)
		}
	}
}

// Lines whose function returns another code than ErrNone, or that ask for a character or an element where
// there is none.
func TestRefusedLines(t *testing.T) {
	for before, lines := range map[string]string{
		"": "root 0 0;root 17 1;root -1 0;root 5 1001;root 5 -1001;over 5@0:0:0:0;over 5@2:0:0:0;power -1;power 65;" +
			"image 0;image 5;image 6;image -1;invert;value 1000001;value -1000001;jacobi 4;jacobi -1;jacobi 999999999;" +
			"character 5 4 4;character 5 4 -1;character 5 3 0;character 4 1 0;character 2 1 0;character 67 2 0;character 7 12 0;character 61 20 0;" +
			"character 0 0 0;character 9 2 1;character 5 0 0;character 5 -4 1;character -5 4 1;" +
			"ring 5;ring 5 1 1 1;ring 5 1 1 1 1 1;ring 1;ring 1 1;ring 0;ring 0 0;ring -5 1 1 1 1;ring 4 1;ring 6 1 1 1;" +
			"ring 41 1 1 1 1 1 1 1 1 1 1 1 1 1 1 1 1 1 1 1 1 1 1 1 1 1 1 1 1 1 1 1 1 1 1 1 1 1 1 1 1;ring 42 1 1 1 1 1 1 1 1 1 1 1 1;" +
			"stickelberger 1;stickelberger 41;stickelberger 0;stickelberger -5;unit 1 1;unit 17 1;unit 5 5;unit 5 0;unit 6 2;unit 5 -1;unit 5 6;unit 0 1;" +
			"count 5 3 1;count 5 1 3;count 4 1 1;count 61 12 15;count 5 0 1;count 5 1 0;count 5 -1 1;count 67 1 1;periods 61 15;periods 5 3;periods 9 2;" +
			"periods 5 0;periods 5 -1;powers 5 0;powers 5 61;powers 2 1;powers 67 1;powers 9 3;powers 7 -3;curve 5 5;curve 5 10;curve 3 60;curve 5 0;" +
			"curve 5 61;curve 4 3;curve 67 1;bernoulli -1;bernoulli 21;irregular 2;irregular 4;irregular 67;irregular -3;irregular 0",
		"number 1@1000000000":                 "plus 1@1;times 1@2;times 1@-2;power 2;plus 2@0;image 2;image 0",
		"number 1@-1000000000":                "plus 1@-1;times 1@2;power 64",
		"number 1@2":                          "power 30;power 64;over 1@3;over 1@0;invert",
		"number 1@0":                          "over 1@0;invert;act",
		"number 5@0:0:0:0":                    "invert;over 5@0:0:0:0",
		"number 5@1000000000:-1000000000:0:0": "conjugate;image 4;power 2;norm;minimal;isunit;invert;act",
		"number 3@1000000000:1":               "invert;over 3@2:0;norm;minimal;isunit",
		"number 3@0:1000000":                  "norm;minimal;isunit;over 3@1000000:0",
		"number 3@1:1;ring 5 1 1 1 1":         "act",
		"number 4@1:1":                        "act",
		"ring 5 1 1 -1 1":                     "act",
		"ring 5 60 0 0 1":                     "act",
		"ring 5 61 0 0 0":                     "act",
		"ring 5 999999999 0 0 0":              "act",
		"ring 2 30;number 2@2":                "act",
		"ring 10 1 1 1 1":                     "act",
		"root 4 1":                            "image 2;image 4;image 0",
		"character 7 3 2":                     "jacobi 3;jacobi -1;value 1000001",
	} {
		d := deskWith(t, before)
		for line := range strings.SplitSeq(lines, ";") {
			wantWrong(t, d, line)
		}
	}
}

// session makes lines out of pools of words.
type session struct {
	numbers sequence
}

// pick returns one of some words.
func (s *session) pick(words ...string) string {
	return words[s.numbers.within(int64(len(words)))-1]
}

// whole returns a word that is mostly a whole number, and one of at most limit mostly.
func (s *session) whole(limit int64) string {
	switch s.numbers.within(24) {
	case 1:
		return s.pick(noWholes()...)
	case 2:
		return s.pick("-1", "0", "17", "64", "1000", "-1000", "1001", "1000000", "1000001", "999999999", "-999999999")
	}
	return fmt.Sprint(s.numbers.within(limit+1) - 1)
}

func (s *session) prime() string {
	if s.numbers.within(24) == 1 {
		return s.whole(70)
	}
	return s.pick("3", "5", "7", "11", "13", "17", "19", "23", "29", "31", "37", "41", "43", "47", "53", "59", "61")
}

// text returns the text of a number, mostly of the Order of the desk's one, or of something else.
func (s *session) text(d impl.Desk) string {
	switch s.numbers.within(16) {
	case 1:
		return s.pick("", "x", "5@1", "1@01", "4@1:-0", "0@1", "17@1", "1@1000000001", "3@1:2:3", "@")
	case 2, 3:
		return spell(s.numbers.cyclo(s.numbers.within(impl.MaxOrder), 3))
	case 4:
		return spell(number(d.Number.Order))
	case 5:
		return spell(s.numbers.cyclo(d.Number.Order, top))
	case 6:
		return spell(d.Number)
	case 7, 8:
		return spell(number(d.Number.Order, s.numbers.upTo(3)))
	}
	return spell(s.numbers.cyclo(d.Number.Order, 2))
}

// ringWords returns a Modulus, mostly the Order of the desk's number, and Parts.
func (s *session) ringWords(d impl.Desk) string {
	modulus := d.Number.Order
	if modulus == 1 || s.numbers.within(3) == 1 {
		modulus = s.numbers.within(41)
	}
	words := []string{fmt.Sprint(modulus)}
	for range unitsOf(modulus) {
		words = append(words, s.whole(s.numbers.within(3)))
	}
	if s.numbers.within(12) == 1 {
		words = words[:len(words)-1]
	}
	return strings.Join(words, " ")
}

// operands returns words for a command.
func (s *session) operands(d impl.Desk, command string) string {
	order := fmt.Sprint(d.Number.Order)
	switch command {
	case "number", "plus", "times", "over":
		return " " + s.text(d)
	case "ring":
		return " " + s.ringWords(d)
	case "root":
		return " " + s.whole(17) + " " + s.whole(1000)
	case "unit":
		return " " + s.pick(order, s.whole(17)) + " " + s.whole(8)
	case "power":
		return " " + s.whole(4)
	case "image":
		return " " + s.whole(d.Number.Order)
	case "value":
		return " " + s.whole(100)
	case "jacobi":
		return " " + s.whole(d.Character.Order)
	case "character", "count":
		return " " + s.prime() + " " + s.whole(6) + " " + s.whole(5)
	case "periods", "powers", "curve":
		return " " + s.prime() + " " + s.whole(12)
	case "stickelberger":
		return " " + s.pick(order, s.whole(42))
	case "bernoulli":
		return " " + s.whole(21)
	case "irregular":
		return " " + s.prime()
	}
	return ""
}

// line returns a line for a desk.
func (s *session) line(d impl.Desk) string {
	command := deskLines()[s.numbers.within(int64(len(deskLines())))-1].command
	line := command + s.operands(d, command)
	switch s.numbers.within(60) {
	case 1:
		return s.pick(wrongForms(line)...)
	case 2:
		return s.pick("", " ", "fly", line+" ", " "+line, line+" "+line)
	}
	return line
}

// The guarantee and promise 11: each line leads from a desk to a desk, and one with the output error
// changes nothing.
func TestSessions(t *testing.T) {
	s := session{}
	done, wrong := map[string]int{}, map[string]int{}
	for range 400 {
		d := impl.NewDesk()
		for range 100 {
			line := s.line(d)
			kept := copyOfDesk(d)
			want, wantOutput := wantLine(kept, line)
			after, output := impl.RunLine(d, line)
			wantDesk(t, fmt.Sprintf("RunLine(%v, %q)", kept, line), after, output, want, wantOutput)
			if !impl.IsDesk(after) || !sameDesk(d, kept) || output == "" {
				t.Fatalf("RunLine(%v, %q) = %v, %q", kept, line, after, output)
			}
			command, _, _ := strings.Cut(line, " ")
			if output == "error" {
				wrong[command]++
				if !sameDesk(after, kept) {
					t.Fatalf("the wrong line %q makes of %v %v", line, kept, after)
				}
			} else {
				done[command]++
			}
			d = after
		}
	}
	for _, one := range deskLines() {
		if done[one.command] < 200 {
			t.Errorf("%s is done %d times, and wrong %d times", one.command, done[one.command], wrong[one.command])
		}
		if strings.Contains(one.pattern.String(), " ") && wrong[one.command] < 20 {
			t.Errorf("%s is wrong %d times", one.command, wrong[one.command])
		}
	}
}

// All lines work on all sorts of desks.
func TestLinesOnManyDesks(t *testing.T) {
	for _, d := range someDesks() {
		for _, one := range plainLines() {
			kept := copyOfDesk(d)
			want, wantOutput := wantLine(kept, one.line)
			after, output := impl.RunLine(d, one.line)
			wantDesk(t, fmt.Sprintf("RunLine(%v, %q)", kept, one.line), after, output, want, wantOutput)
			if !impl.IsDesk(after) || !sameDesk(d, kept) {
				t.Fatalf("RunLine(%v, %q) = %v, %q", kept, one.line, after, output)
			}
		}
	}
}

// checkConsole checks the outputs of a text, and the desk after it.
func checkConsole(t *testing.T, text string) {
	t.Helper()
	desk, outputs, isTold := wantConsole(text)
	if got := impl.Console(text); got != outputs {
		t.Errorf("Console(%q) = %q; want %q", text, got, outputs)
	}
	after, ok := impl.DeskAfter(text)
	if !sameDesk(after, desk) || ok != isTold {
		t.Errorf("DeskAfter(%q) = %v, %v; want %v, %v", text, after, ok, desk, isTold)
	}
}

// wantOutputs checks a text with outputs that are written out.
func wantOutputs(t *testing.T, text string, outputs string) {
	t.Helper()
	if got := impl.Console(text); got != outputs {
		t.Errorf("Console(%q) = %q; want %q", text, got, outputs)
	}
	if d, ok := impl.DeskAfter(text); !ok || !impl.IsDesk(d) {
		t.Errorf("DeskAfter(%q) = %v, %v", text, d, ok)
	}
	checkConsole(t, text)
}

func TestPlainTexts(t *testing.T) {
	for text, outputs := range map[string]string{
		"":                                   "",
		"\n":                                 "",
		"\n\n\n":                             "",
		"norm":                               "5\n",
		"norm\n":                             "5\n",
		"norm\n\n":                           "5\n",
		"\nnorm":                             "5\n",
		"\n\nnorm\n\n\nlook\n\n":             "5\n5 4 1\n",
		" ":                                  "error\n",
		" \n":                                "error\n",
		"   \n \nshow":                       "error\nerror\n5@1:-1:0:0\n",
		"show\r\nlook\r\n":                   "error\nerror\n",
		"show\rlook":                         "error\n",
		"show look":                          "error\n",
		" show\nshow \nshow":                 "error\nerror\n5@1:-1:0:0\n",
		"\t\nshow\x00\n\xff\xfe":             "error\nerror\nerror\n",
		"fly\n":                              "error\n",
		"root 5 1\nfly\nshow":                "5@0:1:0:0\nerror\n5@0:1:0:0\n",
		"power 2\npower 2\ninvert\nshow":     "5@1:-2:1:0\n5@0:-5:5:-5\nerror\n5@0:-5:5:-5\n",
		"back\nexponents\nback\nexponents":   "5 4 3\n0 3 1 2\n5 4 1\n0 1 3 2\n",
		"ring 5 0 1 0 0\nact\nact\nact\nact": "5 0 1 0 0\n5@1:0:-1:0\n5@2:1:1:1\n5@1:0:0:-1\n5@1:-1:0:0\n",
		"unit 5 2\ninvert\ntimes 5@1:1:0:0\nreset\nshow":        "5@1:1:0:0\n5@0:-1:0:-1\n5@1:0:0:0\nok\n5@1:-1:0:0\n",
		"character 7 3 1\nvalue 3\njacobi 1\nnorm\nisunit\nsee": "7 3 1\n3@0:1\n3@-1:-3\n7\nno\n5 1 1 1 1\n",
		"bernoulli 12\nirregular 37\nirregular 31":              "-691/2730\n32\nnone\n",
		"character 5 4 4\nlook\nring 5 1\nsee\njacobi 4\nshow":  "error\n5 4 1\nerror\n5 1 1 1 1\nerror\n5@1:-1:0:0\n",
	} {
		wantOutputs(t, text, outputs)
	}
}

// The new desk is there at the start of every text, whatever has been run before.
func TestNoStateBetweenTexts(t *testing.T) {
	for range 3 {
		wantOutputs(t, "show\nlook\nsee\nnumber 1@7\ncharacter 7 3 2\nring 3 1 2", "5@1:-1:0:0\n5 4 1\n5 1 1 1 1\n1@7\n7 3 2\n3 1 2\n")
		d := deskWith(t, "number 3@1:2;character 11 5 3;ring 2 6")
		other := impl.NewDesk()
		for range 3 {
			_, output := impl.RunLine(d, "show")
			_, otherOutput := impl.RunLine(other, "show")
			if output != "3@1:2" || otherOutput != "5@1:-1:0:0" {
				t.Errorf("show = %q and %q", output, otherOutput)
			}
			impl.RunLine(d, "reset")
			impl.Console("number 1@1\nback\nturn")
		}
	}
}

// Promise 11: the console joins the outputs of the lines.
func TestTextsOfSessions(t *testing.T) {
	s := session{numbers: 7}
	for range 400 {
		d := impl.NewDesk()
		text, outputs := "", ""
		for i := range s.numbers.within(40) {
			line := s.line(d)
			if s.numbers.within(8) == 1 {
				line = ""
			}
			if strings.Contains(line, "\n") || len(text)+len(line) > 3900 {
				continue
			}
			if line != "" {
				after, output := impl.RunLine(d, line)
				outputs += output + "\n"
				d = after
			}
			if i > 0 {
				text += "\n"
			}
			text += line
		}
		if text != "" && s.numbers.within(2) == 1 && strings.Count(text, "\n") < 39 {
			text += "\n"
		}
		if got := impl.Console(text); got != outputs {
			t.Errorf("Console(%q) = %q; want %q", text, got, outputs)
		}
		if after, ok := impl.DeskAfter(text); !ok || !sameDesk(after, d) {
			t.Errorf("DeskAfter(%q) = %v, %v; want %v", text, after, ok, d)
		}
		checkConsole(t, text)
	}
}

// wantRefused checks that a text does not keep the limits.
func wantRefused(t *testing.T, text string) {
	t.Helper()
	if got := impl.Console(text); got != "" {
		t.Errorf("Console of %d bytes and %d newlines = %q", len(text), strings.Count(text, "\n"), got)
	}
	if d, ok := impl.DeskAfter(text); ok || !sameDesk(d, impl.Desk{}) {
		t.Errorf("DeskAfter of %d bytes and %d newlines = %v, %v", len(text), strings.Count(text, "\n"), d, ok)
	}
	checkConsole(t, text)
}

func TestBytesOfTexts(t *testing.T) {
	// What fills a text up to its limit is a wrong line.
	for _, filling := range []string{"x", " ", "\xff", "\x00", "1 ", "\u00e9"} {
		for _, head := range []string{"", "show\n", "number 1@7\n\nshow\n"} {
			for _, tail := range []string{"", "\n", "\nshow", "\nshow\n", "\n\n"} {
				room := 4000 - len(head) - len(tail)
				middle := strings.Repeat(filling, room/len(filling))
				middle += strings.Repeat("y", room-len(middle))
				text := head + middle + tail
				shows := map[string]string{"": "", "show\n": "5@1:-1:0:0\n", "number 1@7\n\nshow\n": "1@7\n1@7\n"}[head]
				last := map[bool]string{true: "1@7\n", false: "5@1:-1:0:0\n"}[strings.HasPrefix(head, "number")]
				want := shows + "error\n"
				if strings.Contains(tail, "show") {
					want += last
				}
				wantOutputs(t, text, want)
				wantRefused(t, head+middle+"y"+tail)
				wantRefused(t, "y"+text)
				wantRefused(t, text+" ")
				wantRefused(t, text+"\n")
				wantRefused(t, text+text)
			}
		}
	}
	wantRefused(t, strings.Repeat("\u00e9", 2000)+"x")
	wantRefused(t, strings.Repeat("\n", 4001))
}

func TestLinesOfTexts(t *testing.T) {
	for count := range 60 {
		check := wantRefused
		if count <= 40 {
			check = func(t *testing.T, text string) {
				t.Helper()
				wantOutputs(t, text, strings.Repeat("5\n", strings.Count(text, "norm")))
			}
		}
		lines := strings.Repeat("norm\n", count)
		check(t, lines)
		check(t, strings.TrimSuffix(lines, "\n"))
		check(t, strings.Repeat("\n", count))
		if count > 0 {
			check(t, strings.Repeat("\n", count-1)+"norm")
			check(t, strings.Repeat("\n", count-1)+"norm\n")
			check(t, "norm"+strings.Repeat("\n", count))
			check(t, strings.Repeat("\nnorm\n", count/2)+strings.Repeat("\n", count%2))
		}
	}
	// Both limits are kept at once.
	line := strings.Repeat("z", 99)
	wantOutputs(t, strings.Repeat(line+"\n", 40), strings.Repeat("error\n", 40))
	wantRefused(t, strings.Repeat(line+"\n", 40)+"z")
	wantRefused(t, strings.Repeat(line+"\n", 39)+"\n"+line)
	wantRefused(t, strings.Repeat(line+"\n", 39)+line+"zz")
	wantRefused(t, strings.Repeat("power 2\n", 41))
	wantRefused(t, strings.Repeat("\n", 40)+" ")
}

// spareDesk returns a copy of a desk with spare capacity behind its Parts, and whether all of this memory is
// as before.
func spareDesk(d impl.Desk) (impl.Desk, func() bool) {
	x, all := padded(d.Number)
	r, allOfRing := paddedRing(d.Ring)
	before, ringBefore := slices.Clone(all), slices.Clone(allOfRing)
	d.Number, d.Ring = x, r
	return d, func() bool { return slices.Equal(all, before) && slices.Equal(allOfRing, ringBefore) }
}

// Results are new memory, whether the line is done, wrong, or leaves a part as it is. Neither part of a desk
// shares memory with the other one.
func TestMemoryOfDesks(t *testing.T) {
	for _, one := range plainLines() {
		d, isKept := spareDesk(deskWith(t, one.before))
		for _, line := range []string{one.line, one.line + " ", "", "fly"} {
			first, output := impl.RunLine(d, line)
			want := copyOfDesk(first)
			fillRow(first.Number.Parts[:cap(first.Number.Parts)], 99)
			if !isKept() || !sameRing(first.Ring, want.Ring) {
				t.Fatalf("RunLine %q after %q shares the memory of the number", line, one.before)
			}
			fillRow(first.Ring.Parts[:cap(first.Ring.Parts)], 98)
			if !isKept() || !slices.Equal(first.Number.Parts, slices.Repeat([]int64{99}, len(want.Number.Parts))) {
				t.Fatalf("RunLine %q after %q shares the memory of the element", line, one.before)
			}
			again, outputAgain := impl.RunLine(d, line)
			wantDesk(t, "RunLine "+line+" again", again, outputAgain, want, output)
		}
		text := strings.ReplaceAll(one.before, ";", "\n") + "\n" + one.line
		first, _ := impl.DeskAfter(text)
		want := copyOfDesk(first)
		fillRow(first.Number.Parts[:cap(first.Number.Parts)], 99)
		if !sameRing(first.Ring, want.Ring) {
			t.Fatalf("the number and the element after %q share memory", text)
		}
		fillRow(first.Ring.Parts[:cap(first.Ring.Parts)], 98)
		again, ok := impl.DeskAfter(text)
		if !ok || !sameDesk(again, want) {
			t.Errorf("DeskAfter(%q) = %v, %v the second time; want %v", text, again, ok, want)
		}
	}
}
