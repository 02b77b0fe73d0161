package graph

import (
	"strconv"
	"strings"

	"loanword/api"
	"loanword/place"
)

// Text answers the text of the point q.
func Text(u api.Unit, fn, q int) (string, api.Errno) {
	p, e := pointOf(u, fn, q)
	if e != api.OK {
		return "", e
	}
	return pointText(q, p), api.OK
}

// Lines answers the text of each point of the graph fn, behind its number.
func Lines(u api.Unit, fn int) ([]string, api.Errno) {
	g, e := graphOf(u, fn)
	if e != api.OK {
		return nil, e
	}
	var l []string
	for q, p := range g.Points {
		l = append(l, strconv.Itoa(q)+": "+pointText(q, p))
	}
	return l, api.OK
}

func pointText(q int, p api.Point) string {
	if has(p.Op, hasTo) {
		return place.Text(p.To) + " = " + madeText(p) + onText(q, p)
	}
	return doneText(p) + onText(q, p)
}

// madeText is what a point that assigns makes.
func madeText(p api.Point) string {
	switch p.Op {
	case api.Use:
		return operandText(p.A)
	case api.Binary:
		return operandText(p.A) + " " + p.Sign + " " + operandText(p.B)
	case api.Unary:
		return p.Sign + " " + operandText(p.A)
	case api.Borrow:
		if p.Mut {
			return "&mut " + place.Text(p.From)
		}
		return "& " + place.Text(p.From)
	case api.Box:
		return "box " + operandText(p.A)
	case api.Make:
		return "#" + strconv.Itoa(p.Struct) + listText(p.Args...)
	case api.Call:
		return "f" + strconv.Itoa(p.Fn) + listText(p.Args...)
	case api.Read:
		return "read"
	}
	return ""
}

// doneText is what a point that assigns nothing does.
func doneText(p api.Point) string {
	switch p.Op {
	case api.Print:
		return "print " + operandText(p.A)
	case api.Drop:
		return "drop " + place.Text(p.From)
	case api.Dead:
		return "dead " + place.Text(p.From)
	case api.Branch:
		return "if " + operandText(p.A)
	case api.Goto:
		return "goto"
	case api.Return:
		return "return"
	}
	return ""
}

// onText tells where it goes on, where that is not plain.
func onText(q int, p api.Point) string {
	switch {
	case p.Op == api.Return:
		return ""
	case p.Op == api.Branch:
		return " -> " + strconv.Itoa(p.Next) + " else " + strconv.Itoa(p.Else)
	case p.Op == api.Goto || p.Next != q+1:
		return " -> " + strconv.Itoa(p.Next)
	}
	return ""
}

func listText(l ...api.Operand) string {
	var texts []string
	for _, o := range l {
		texts = append(texts, operandText(o))
	}
	return "(" + strings.Join(texts, ", ") + ")"
}

func operandText(o api.Operand) string {
	switch o.Kind {
	case api.ConstInt:
		return strconv.FormatInt(o.N, 10)
	case api.ConstBool:
		return strconv.FormatBool(o.N == 1)
	case api.Copy:
		return "copy " + place.Text(o.Place)
	case api.Move:
		return "move " + place.Text(o.Place)
	}
	return ""
}
