package tests

import (
	"fmt"
	"strings"
	"testing"

	"loop.example/g01199/impl"
)

// The tests of promise 11 for chapter 10.

// chapterTen leaves out FirstDesk, which takes nothing and cannot fail.
func chapterTen() map[string]any {
	return map[string]any{
		"IsDesk": impl.IsDesk, "DeskLine": impl.DeskLine, "RunScript": impl.RunScript, "DeskAfter": impl.DeskAfter, "FailedLines": impl.FailedLines,
	}
}

func functionsOfScripts() []string {
	return []string{"RunScript", "DeskAfter", "FailedLines"}
}

// argumentsOfConsole gives arguments with which the function succeeds, with a line or a script that gives lists.
func argumentsOfConsole(name string) []any {
	d := impl.Desk{Tray: ".ao/.#.", Done: "r"}
	switch name {
	case "IsDesk":
		return []any{d}
	case "DeskLine":
		return []any{d, "tilt dl"}
	}
	return []any{scriptOf("tilt rd", "done", "balls", "fly", "hard a", "bring b 0", "stick u", "pieces", "")}
}

// notDesks are no desks, each for one reason.
func notDesks() []impl.Desk {
	desks := []impl.Desk{{}, {Done: "u"}, {Tray: "x"}, {Tray: "a.", Done: "x"}}
	for _, s := range notTrays() {
		desks = append(desks, impl.Desk{Tray: s, Done: "u"})
	}
	for _, word := range notWords() {
		desks = append(desks, impl.Desk{Tray: "a.o/.#.", Done: word})
	}
	return desks
}

func failsAsScript(t *testing.T, script string) {
	t.Helper()
	for _, name := range functionsOfScripts() {
		failsWithZeros(t, name, script)
	}
}

func TestWhatIsNoDeskFails(t *testing.T) {
	for _, d := range notDesks() {
		failsWithZeros(t, "IsDesk", d)
		// Not even a line that would put a tray there, or is none, is executed.
		for _, line := range append(linesOfTable(), "", "fly", "tray .", "put 9 9 o", strings.Repeat("x", 3001), "show\n") {
			failsWithZeros(t, "DeskLine", d, line)
		}
	}
}

func TestLinesWithNewlinesFail(t *testing.T) {
	d := impl.Desk{Tray: ".ao/.#.", Done: "r"}
	for _, line := range append(linesOfTable(), "", "fly", " ") {
		for _, other := range []string{line + "\n", "\n" + line, line + "\n" + line, line + "\r\n", line + " \n", "\n" + line + "\n", line + "\n\n"} {
			failsWithZeros(t, "DeskLine", d, other)
		}
	}
}

func TestLinesThatAreTooLongFail(t *testing.T) {
	d := impl.Desk{Tray: ".ao/.#.", Done: "r"}
	for _, line := range []string{
		strings.Repeat("x", 3001), strings.Repeat(" ", 3001), strings.Repeat("é", 1501), "show" + strings.Repeat(" ", 2997), "tilt " + strings.Repeat("u", 2996), strings.Repeat("x", 3000) + "\n",
		strings.Repeat("x", 100000), strings.Repeat("tilt r ", 10000), strings.Repeat("\n", 3001),
	} {
		failsWithZeros(t, "DeskLine", d, line)
	}
}

func TestTextsThatAreNoScriptsFail(t *testing.T) {
	for _, script := range []string{
		// The last line has no newline.
		"show", " ", "x", "\x00", "tilt r\nshow", "tilt r\n ", "\n\nx", "show\r", "show\n\r", "show\nshow\n\x00", strings.Repeat("\n", 49) + "x", strings.Repeat("x", 3000), "\n" + strings.Repeat("x", 2999),
		// There are too many lines, or one more begins.
		strings.Repeat("\n", 51), strings.Repeat("show\n", 51), strings.Repeat("\n", 50) + "x", strings.Repeat("show\n", 50) + "show", strings.Repeat("\n", 52), strings.Repeat("\n", 3000), strings.Repeat("tilt r\n", 60),
		// There are too many bytes.
		strings.Repeat("x", 3000) + "\n", strings.Repeat("x", 3001), strings.Repeat(strings.Repeat("x", 59)+"\n", 50) + "\n", "show\n" + strings.Repeat(" ", 2995) + "\n",
		strings.Repeat("x", 100000) + "\n", strings.Repeat("\n", 100000), strings.Repeat("show\n", 100000), strings.Repeat("tilt urdl", 1000),
	} {
		failsAsScript(t, script)
	}
	for _, line := range linesOfTable() {
		failsAsScript(t, line)
		failsAsScript(t, "show\n"+line)
	}
}

func TestArgumentsOfTheConsoleSucceed(t *testing.T) {
	for name, function := range chapterTen() {
		list := argumentsOfConsole(name)
		if results, ok := call(function, list...); !ok {
			t.Errorf("%s%q fails with %v", name, list, results)
		}
	}
}

// TestListsOfTheConsoleAreTheirOwn spoils what one call hands out, and asks the next one.
func TestListsOfTheConsoleAreTheirOwn(t *testing.T) {
	for _, name := range functionsOfScripts() {
		for _, script := range []string{"", "show\n", "fly\n", argumentsOfConsole(name)[0].(string)} {
			first, _ := call(chapterTen()[name], script)
			want := fmt.Sprint(first)
			second, ok := call(chapterTen()[name], script)
			spoil(first)
			expect(t, name+" told before", []any{fmt.Sprint(second), ok}, want, true)
			third, ok := call(chapterTen()[name], script)
			expect(t, name+" told again", []any{fmt.Sprint(third), ok}, want, true)
		}
	}
}

// TestNoDeskIsKept executes lines on one desk again and again, with others between them: each time they come to the same.
func TestNoDeskIsKept(t *testing.T) {
	d := impl.Desk{Tray: "a.o/.#.", Done: "u"}
	given := d
	for range 5 {
		for _, line := range append(linesOfTable(), "fly", "", "put 9 9 o") {
			want, reply := consoleModel(d, line)
			expectLine(t, d, line, want, reply)
			failsWithZeros(t, "DeskLine", d, line+"\n")
			expect(t, "the desk", []any{d}, given)
			impl.RunScript(scriptOf("tray #", line, "tilt r", "tray b."))
			expect(t, "FirstDesk", []any{impl.FirstDesk()}, impl.Desk{Tray: "a.o/.#."})
		}
	}
}
