// Package sample makes what the tests of several layers are made with; no layer uses it.
package sample

import (
	"slices"
	"strconv"
	"strings"

	"capstan/api"
	"capstan/op"
)

// Dice yields numbers that look like chance, the same ones each time.
type Dice uint64

// Below returns the next number, which is from 0 on and below n.
func (d *Dice) Below(n int) int {
	*d = *d*6364136223846793005 + 1442695040888963407
	return int(uint64(*d)>>33) % n
}

// Pick returns one of the list, which is not empty.
func Pick[T any](d *Dice, l []T) T { return l[d.Below(len(l))] }

// Letters are the kinds as tests write them: n an integer, p a pair, r an array; o is KdNone.
const Letters = "onpr"

// Kinds returns the kinds that are written so.
func Kinds(text string) []uint8 {
	l := make([]uint8, len(text))
	for i := range l {
		l[i] = uint8(strings.IndexByte(Letters, text[i]))
	}
	return l
}

// Values returns values of the kinds that are written so, each with its index as A.
func Values(text string) []api.Value {
	var l []api.Value
	for i, kind := range Kinds(text) {
		l = append(l, api.Value{Kind: kind, A: int64(i)})
	}
	return l
}

// Code returns the code that is written as in the chapters, with semicolons between; the empty text is empty code. A word in front of an instruction, such as 3*, is how many times it stands there. It panics if there is no such instruction.
func Code(text string) []api.Instr {
	var l []api.Instr
	for line := range strings.SplitSeq(text, ";") {
		words := strings.Fields(line)
		if len(words) == 0 {
			continue
		}
		times := 1
		if often, is := strings.CutSuffix(words[0], "*"); is {
			times, _ = strconv.Atoi(often)
			words = words[1:]
		}
		opcode, is := op.Parse(words[0])
		if !is {
			panic(words[0])
		}
		i := api.Instr{Op: opcode}
		if len(words) > 1 {
			i.A, _ = strconv.Atoi(words[1])
		}
		l = append(l, slices.Repeat([]api.Instr{i}, times)...)
	}
	return l
}

// Declaring returns a copy of m whose methods declare these certificates.
func Declaring(m api.Module, certs ...api.Cert) api.Module {
	m.Methods = slices.Clone(m.Methods)
	for k, c := range certs {
		x := &m.Methods[k]
		x.Fuel, x.Stack, x.Heap = c.Fuel, c.Stack, c.Heap
	}
	return m
}

// Most is as much as a method may declare.
func Most() api.Cert { return api.Cert{Fuel: api.MaxFuel, Stack: api.MaxStack, Heap: api.MaxHeap} }

// Open returns a copy of m whose methods declare as much as they may.
func Open(m api.Module) api.Module {
	return Declaring(m, slices.Repeat([]api.Cert{Most()}, len(m.Methods))...)
}
