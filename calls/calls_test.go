// Package calls holds what is asked of every call that the chapters list, whatever it does: see shared/DOC.md, 'Rules that hold everywhere'.
package calls

import (
	"fmt"
	"reflect"
	"testing"

	"lapwing/api"
)

const rounds = 60

func TestForms(t *testing.T) {
	for _, c := range listed() {
		if is := reflect.TypeOf(c.f).String(); is != c.form {
			t.Errorf("%s is %s, not %s", c.name, is, c.form)
		}
	}
}

// TestRules asks P1 (R1), R2 and R3 of all calls: none panics, beside an error nothing is told, what is handed in is not changed.
func TestRules(t *testing.T) {
	d := &dice{kept: map[reflect.Type][]reflect.Value{}}
	for range rounds {
		for _, c := range listed() {
			f := reflect.ValueOf(c.f)
			ask(t, d, c.name, f, arguments(f, d.value))
			if t.Failed() {
				return
			}
		}
	}
}

func TestNilOfAllCalls(t *testing.T) {
	d := &dice{kept: map[reflect.Type][]reflect.Value{}}
	for _, c := range listed() {
		f := reflect.ValueOf(c.f)
		ask(t, d, c.name, f, arguments(f, reflect.Zero))
	}
}

// arguments are those of f, each told by its type.
func arguments(f reflect.Value, each func(reflect.Type) reflect.Value) []reflect.Value {
	var args []reflect.Value
	for k := range f.Type().NumIn() {
		args = append(args, each(f.Type().In(k)))
	}
	return args
}

// ask calls f twice, and holds what it does against the rules.
func ask(t *testing.T, d *dice, name string, f reflect.Value, args []reflect.Value) {
	var was []reflect.Value
	for _, a := range args {
		was = append(was, twin(a))
	}
	told := answer(t, name, f, args)
	for k := range args {
		if !reflect.DeepEqual(args[k].Interface(), was[k].Interface()) {
			t.Errorf("R3: %s changes what is handed in: %s", name, shown(was))
		}
	}
	again := answer(t, name, f, was)
	if len(told) != len(again) {
		return
	}
	failed := false
	for k, v := range told {
		if small(v) && small(again[k]) && !reflect.DeepEqual(v.Interface(), again[k].Interface()) {
			t.Errorf("%s tells %v, and then %v, of %s", name, v, again[k], shown(was))
		}
		if e, ok := v.Interface().(api.Errno); ok && e != api.OK {
			failed = true
		}
	}
	for _, v := range told {
		if _, ok := v.Interface().(api.Errno); failed && !ok && !nothing(v) {
			t.Errorf("R2: %s tells %v beside an error, of %s", name, v, shown(was))
		}
		d.keep(v)
	}
}

// answer is what f tells; nothing, if it panics.
func answer(t *testing.T, name string, f reflect.Value, args []reflect.Value) (told []reflect.Value) {
	defer func() {
		if p := recover(); p != nil {
			t.Errorf("P1: %s panics: %v, of %s", name, p, shown(args))
			told = nil
		}
	}()
	return f.Call(args)
}

// shown is arguments as a text, cut where it is long.
func shown(args []reflect.Value) string {
	s := ""
	for _, a := range args {
		s += fmt.Sprintf("(%+v) ", a.Interface())
	}
	return s[:min(len(s), 600)]
}
