package sample

import (
	"slices"

	"capstan/api"
)

// Roomy returns an equal list in memory of its own, with room behind it that holds what is told.
func Roomy[T any](l []T, behind ...T) []T {
	return append(slices.Clone(l), behind...)[:len(l)]
}

// Twin returns a module equal to m in memory of its own; each of its lists has room behind it, which holds something else: values and kinds that may not stand there, methods that could be called, and code that stores, calls and takes from the heap.
func Twin(m api.Module) api.Module {
	code := Code("store 0; call 0; new 9; trap 3")
	m.Globals, m.Pool = Roomy(m.Globals, Values("rop")...), Roomy(m.Pool, Values("por")...)
	m.Methods = Roomy(m.Methods, api.Method{Args: Kinds("r"), Result: api.KdInt, Reads: true, Code: code}, api.Method{Fuel: 7})
	for k, x := range m.Methods {
		x.Args, x.Locals, x.Code = Roomy(x.Args, 9, 8, 7), Roomy(x.Locals, 6, 5, 4), Roomy(x.Code, code...)
		m.Methods[k] = x
	}
	return m
}

// Whole returns all memory of m, capacity included, as lists of their full length.
func Whole(m api.Module) api.Module {
	m.Globals, m.Pool, m.Methods = m.Globals[:cap(m.Globals)], m.Pool[:cap(m.Pool)], slices.Clone(m.Methods[:cap(m.Methods)])
	for k, x := range m.Methods {
		x.Args, x.Locals, x.Code = x.Args[:cap(x.Args)], x.Locals[:cap(x.Locals)], x.Code[:cap(x.Code)]
		m.Methods[k] = x
	}
	return m
}

// Spoil writes x into all memory of l, capacity included.
func Spoil[T any](l []T, x T) {
	l = l[:cap(l)]
	for i := range l {
		l[i] = x
	}
}

// SpoilModule writes something else into all memory of m, capacity included.
func SpoilModule(m api.Module) {
	Spoil(m.Globals, api.Value{Kind: 99})
	Spoil(m.Pool, api.Value{Kind: 98})
	for _, x := range m.Methods[:cap(m.Methods)] {
		Spoil(x.Args, 97)
		Spoil(x.Locals, 96)
		Spoil(x.Code, api.Instr{Op: 95})
	}
	Spoil(m.Methods, api.Method{Fuel: 94, Reads: true})
}
