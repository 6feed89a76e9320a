package store

import "intaglio/api"

// simple is a word, as +OK.
func simple(word string) api.Reply { return api.Reply{Kind: api.RSimple, Text: word} }

// done is what is told of most commands that change something.
func done() api.Reply { return simple("OK") }

// failed is an error.
func failed(why string) api.Reply { return api.Reply{Kind: api.RError, Text: why} }

// number is a number.
func number(n int) api.Reply { return api.Reply{Kind: api.RInt, Int: n} }

// yes is 1, or 0.
func yes(is bool) api.Reply {
	if is {
		return number(1)
	}
	return number(0)
}

// text is a text.
func text(s string) api.Reply { return api.Reply{Kind: api.RBulk, Text: s} }

// none is no text.
func none() api.Reply { return api.Reply{Kind: api.RNil} }

// textIf is a text, if it is there, or no text.
func textIf(s string, there bool) api.Reply {
	if there {
		return text(s)
	}
	return none()
}

// numberIf is a number, if it is there, or no text.
func numberIf(n int, there bool) api.Reply {
	if there {
		return number(n)
	}
	return none()
}

// list is a list of replies.
func list(l ...api.Reply) api.Reply { return api.Reply{Kind: api.RArray, List: l} }

// texts is a list of texts.
func texts(l ...string) api.Reply {
	var out []api.Reply
	for _, s := range l {
		out = append(out, text(s))
	}
	return list(out...)
}
