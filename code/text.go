package code

import (
	"strconv"
	"strings"

	"beadlayer/api"
	"beadlayer/terms"
)

// word is the one with which the line of a kind of step begins.
func word(kind int) string {
	switch kind {
	case api.StepAbsolute:
		return "absolute"
	case api.StepRelative:
		return "relative"
	case api.StepMove:
		return "move"
	case api.StepPrint:
		return "print"
	case api.StepLayer:
		return "layer"
	case api.StepSpeed:
		return "speed"
	case api.StepWait:
		return "wait"
	case api.StepHeat:
		return "heat"
	}
	return "tool"
}

// kindOf is the kind of step whose lines begin with a word; false if there is none.
func kindOf(first string) (int, bool) {
	for kind := api.StepAbsolute; kind <= api.StepTool; kind++ {
		if word(kind) == first {
			return kind, true
		}
	}
	return 0, false
}

// Text writes steps.
func Text(s []api.Step) (string, api.Errno) {
	if e := CheckSteps(s); e != api.OK {
		return "", e
	}
	var text strings.Builder
	for _, step := range s {
		text.WriteString(word(step.Kind))
		for _, field := range fields(&step) {
			text.WriteString(" " + strconv.Itoa(*field))
		}
		text.WriteString("\n")
	}
	return terms.Bounded(text.String())
}

// Read reads steps.
func Read(text string) ([]api.Step, int, api.Errno) {
	var s []api.Step
	wrong, e := terms.Lines(text, func(line string) bool {
		step, ok := readStep(line)
		s = append(s, step)
		return ok
	})
	if e != api.OK {
		return nil, wrong, e
	}
	s, e = checked(s)
	return s, 0, e
}

// readStep is the step that a line tells; false if it does not have the form.
func readStep(line string) (api.Step, bool) {
	words := strings.Split(line, " ")
	kind, isKind := kindOf(words[0])
	numbers, areNumbers := terms.Numbers(words[1:])
	step := api.Step{Kind: kind}
	used := fields(&step)
	if !isKind || !areNumbers || len(numbers) != len(used) {
		return api.Step{}, false
	}
	for i, field := range used {
		*field = numbers[i]
	}
	return step, true
}
