package code

import (
	"strconv"
	"strings"

	"beadlayer/api"
	"beadlayer/terms"
)

// word is the one with which the line of a kind of step begins.
func word(kind int) string {
	switch kind {
	case api.StepAbsolute:
		return "absolute"
	case api.StepRelative:
		return "relative"
	case api.StepMove:
		return "move"
	case api.StepPrint:
		return "print"
	case api.StepLayer:
		return "layer"
	case api.StepSpeed:
		return "speed"
	case api.StepWait:
		return "wait"
	case api.StepHeat:
		return "heat"
	}
	return "tool"
}

// Text writes steps.
func Text(s []api.Step) (string, api.Errno) {
	if e := CheckSteps(s); e != api.OK {
		return "", e
	}
	var text strings.Builder
	for _, step := range s {
		text.WriteString(word(step.Kind))
		for _, field := range fields(&step) {
			text.WriteString(" " + strconv.Itoa(*field))
		}
		text.WriteString("\n")
	}
	return terms.Bounded(text.String())
}

// Read reads steps.
func Read(text string) ([]api.Step, int, api.Errno) {
	return terms.Read(text, readStep, CheckSteps)
}

// readStep is the step that a line tells; false if it does not have the form.
func readStep(line string) (api.Step, bool) {
	words := strings.Split(line, " ")
	kind, isKind := terms.Kind(words[0], api.StepTool, word)
	numbers, areNumbers := terms.Numbers(words[1:])
	step := api.Step{Kind: kind}
	used := fields(&step)
	if !isKind || !areNumbers || len(numbers) != len(used) {
		return api.Step{}, false
	}
	for i, field := range used {
		*field = numbers[i]
	}
	return step, true
}
