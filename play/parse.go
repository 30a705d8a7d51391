package play

import (
	"strconv"
	"strings"

	"gantlet/api"
	"gantlet/asm"
)

// rest is what is left of a text.
type rest struct{ left string }

// cut takes the next line, if one is ended.
func (r *rest) cut() (string, bool) {
	line, left, ended := strings.Cut(r.left, "\n")
	if !ended {
		return "", false
	}
	r.left = left
	return line, true
}

// wrong is thrown at a line that is wrong: its number.
type wrong struct{ line int }

// reader reads a script, line by line.
type reader struct {
	rest
	line int // the number of the last line that was cut
	s    api.Script
}

func fail(line int) { panic(wrong{line}) }

// next takes the next line; false: there is none.
func (r *reader) next() (string, bool) {
	line, ok := r.cut()
	if ok {
		r.line++
	}
	return line, ok
}

func (r *reader) read() {
	first, ok := r.next()
	if !ok || !r.conf(strings.Split(first, " ")) {
		fail(1)
	}
	for {
		line, ok := r.next()
		switch {
		case !ok && r.left != "":
			fail(r.line + 1)
		case !ok:
			return
		case line == progLine && len(r.s.Picks) == 0 && len(r.s.Progs) < api.MaxThreads:
			r.program()
		case line == progLine || !r.pick(strings.Split(line, " ")):
			fail(r.line)
		}
	}
}

// conf reads the words of settings.
func (r *reader) conf(words []string) bool {
	if len(words) != 8 || words[0] != confWord {
		return false
	}
	switch words[6] {
	case greedy:
		r.s.Conf.Manager = api.Greedy
	case polite:
		r.s.Conf.Manager = api.Polite
	default:
		return false
	}
	written := append(words[1:6:6], words[7])
	for at, n := range numbers(&r.s.Conf) {
		got, ok := number(written[at])
		if !ok {
			return false
		}
		*n = got
	}
	return true
}

// program reads the lines behind a `prog`; these are looked at once its end is there.
func (r *reader) program() {
	from := r.line
	var lines strings.Builder
	for {
		line, ok := r.next()
		if !ok {
			fail(r.line + 1)
		}
		if line == doneLine {
			break
		}
		lines.WriteString(line + "\n")
	}
	p, at, e := asm.Parse(lines.String())
	if e != api.OK {
		fail(from + at)
	}
	r.s.Progs = append(r.s.Progs, p)
}

// pick reads the words of picks.
func (r *reader) pick(words []string) bool {
	if len(words) != 3 || words[0] != pickWord {
		return false
	}
	t, okThread := number(words[1])
	n, okCount := number(words[2])
	if !okThread || !okCount || t >= api.MaxThreads || n < 1 || n > api.MaxSteps-len(r.s.Picks) {
		return false
	}
	for range n {
		r.s.Picks = append(r.s.Picks, t)
	}
	return true
}

// number is that of a word, of one writing each.
func number(word string) (int, bool) {
	n, e := strconv.Atoi(word)
	if e != nil || !isNumber(n) || strconv.Itoa(n) != word {
		return 0, false
	}
	return n, true
}

// read is the script of a text, or the number of the line that is wrong.
func read(t string) (s api.Script, line int) {
	defer func() {
		if w, ok := recover().(wrong); ok {
			s, line = api.Script{}, w.line
		}
	}()
	r := &reader{rest: rest{t}}
	r.read()
	return r.s, 0
}

// Parse: the script of a text.
func Parse(t string) (api.Script, int, api.Errno) {
	if len(t) > api.MaxText {
		return api.Script{}, 0, api.ErrLong
	}
	s, line := read(t)
	if line > 0 {
		return api.Script{}, line, api.ErrPlay
	}
	return s, 0, api.OK
}
