package farm

import (
	"beadlayer/api"
	"beadlayer/terms"
)

func isKind(kind int) bool {
	return terms.Within(kind, api.EventStart, api.EventServe)
}

// fields are those that an event uses beside its printer, in the order in which its text tells them.
func fields(e *api.Event) []*string {
	switch e.Kind {
	case api.EventStart:
		return []*string{&e.Job}
	case api.EventChange:
		return []*string{&e.Material}
	}
	return nil
}

// hasUnused reports whether an event has a field that it does not use, and that is not empty.
func hasUnused(e api.Event) bool {
	for _, field := range fields(&e) {
		*field = ""
	}
	return e.Job != "" || e.Material != ""
}

// hasKeys reports whether the printer of an event, and what it uses beside it, are keys.
func hasKeys(e api.Event) bool {
	for _, field := range fields(&e) {
		if !terms.IsKey(*field) {
			return false
		}
	}
	return terms.IsKey(e.Printer)
}

// checkEvent validates an event. Which printers there are differs between those who ask.
func checkEvent(e api.Event, isPrinter func(key string) bool) api.Errno {
	switch {
	case !terms.IsMoment(e.At):
		return api.ErrArg
	case !isKind(e.Kind):
		return api.ErrKind
	case !isPrinter(e.Printer):
		return api.ErrNone
	case hasUnused(e):
		return api.ErrForm
	case !hasKeys(e):
		return api.ErrName
	}
	return api.OK
}

func checkList(l []api.Event, isPrinter func(key string) bool) api.Errno {
	if len(l) > api.MaxEvents {
		return api.ErrLarge
	}
	for i, event := range l {
		if e := checkEvent(event, isPrinter); e != api.OK {
			return e
		}
		if i > 0 && event.At < l[i-1].At {
			return api.ErrOrder
		}
	}
	return api.OK
}

// places are the indices of printers by their keys.
func places(p []api.Printer) map[string]int {
	all := make(map[string]int)
	for i, printer := range p {
		all[printer.Key] = i
	}
	return all
}

// CheckEvents validates events.
func CheckEvents(p []api.Printer, l []api.Event) api.Errno {
	if e := CheckPrinters(p); e != api.OK {
		return e
	}
	all := places(p)
	return checkList(l, func(key string) bool {
		_, is := all[key]
		return is
	})
}
