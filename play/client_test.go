package play_test

import (
	"bytes"
	"testing"

	"intaglio/api"
	"intaglio/box"
	"intaglio/pipe"
	"intaglio/resp"
	"intaglio/shake"
)

// P26.1: calls are counted over all clients; a new one stands in the place of the one that was there.
func TestDial(t *testing.T) {
	both(t, func(t *testing.T, ideal bool) {
		w := booted(t, wide(), ideal)
		for peer, who := range []int{3, 0, 5, 3} {
			w.calls(who)
			if c := w.call(who); !c.Done || c.Keys != keysOf(1, peer, peer) {
				t.Errorf("%v", c)
			}
		}
		w.says(3, "SET k 1")
		w.synced(3)
		w.does(api.OK, dial(3))
		w.does(api.ESTATE, say(3, "PING"), hang(3))
		calls := w.w.Calls()
		if len(calls) != 5 || calls[4].Done || calls[4].Keys != keysOf(0, 0, 4) || len(calls[4].Said)+len(calls[4].Got) != 0 {
			t.Errorf("%v", calls)
		}
		// What the one ahead had stays.
		if !bytes.Equal(calls[3].Said, say(3, "SET k 1").Text) || string(calls[3].Got) != "+OK\r\n" || !calls[3].Done {
			t.Errorf("%v", calls[3])
		}
		// A frame of the connection ahead is none of this call's.
		w.does(api.EFORM, again(7, 2, 7))
		w.does(api.ESTATE, again(7, 2, 7))
	})
}

// P26.1: a client can dial without a server; its hello waits.
func TestDialAlone(t *testing.T) {
	w := newTwin(t, wide(), 1000, false)
	w.does(api.OK, dial(2), dial(2))
	if w.w.Waiting(4) != 2 || w.w.Waiting(5) != 0 {
		t.Errorf("%d, %d", w.w.Waiting(4), w.w.Waiting(5))
	}
	w.does(api.ESTATE, bring(4))
	w.does(api.OK, boot(), bring(4), bring(5), bring(4))
	if c := w.call(2); !c.Done || c.Keys != keysOf(1, 0, 1) {
		t.Errorf("%v", c)
	}
}

// P26.1: what a client says, and when it can't.
func TestSay(t *testing.T) {
	both(t, func(t *testing.T, ideal bool) {
		w := booted(t, wide(), ideal)
		w.does(api.ESTATE, say(1, "PING"))
		w.does(api.OK, dial(1))
		w.does(api.ESTATE, say(1, "PING"))
		w.does(api.OK, bring(2))
		w.does(api.ESTATE, say(1, "PING"))
		w.does(api.OK, bring(3))
		// It may talk ahead of the server's having its finish.
		w.does(api.OK, say(1, "PING"), say(1, "ECHO a"), api.Step{Kind: api.SSay, Who: 1})
		w.does(api.ELONG, api.Step{Kind: api.SSay, Who: 1, Text: make([]byte, 60001)})
		if c := w.call(1); string(c.Said) != string(resp.Command([]string{"PING"}))+string(resp.Command([]string{"ECHO", "a"})) {
			t.Errorf("%q", c.Said)
		}
		if w.w.Waiting(2) != 4 {
			t.Errorf("%d frames wait", w.w.Waiting(2))
		}
		w.does(api.OK, bring(2), bring(2), bring(2), bring(2))
		w.synced(1)
		w.got(1, "+PONG|$1|a|")
		w.does(api.OK, api.Step{Kind: api.SSay, Who: 1, Text: make([]byte, 60000)}, bring(2), sync(), bring(3))
		w.got(1, "-ERR protocol error|")
		w.does(api.OK, say(1, "PING"))
		w.does(api.ENONE, bring(2))
	})
}

// P26.1, P7: at their bound frames are no more; the call is still there.
func TestSaySpent(t *testing.T) {
	both(t, func(t *testing.T, ideal bool) {
		bounds := wide()
		bounds.Seq, bounds.Epoch = 2, 1
		w := booted(t, bounds, ideal)
		w.calls(1)
		for range 4 {
			w.says(1, "PING")
		}
		said := len(w.call(1).Said)
		w.does(api.ESPENT, say(1, "PING"), say(1, "PING"))
		w.synced(1)
		w.got(1, "+PONG|+PONG|+PONG|+PONG|")
		if len(w.call(1).Said) != said {
			t.Error("what was not said is told to be")
		}
		w.does(api.ESPENT, hang(1))
		w.does(api.ECLOSED, say(1, "PING"), hang(1), again(3, 1, 3))
		w.does(api.ESTATE, say(1, "PING"), hang(1), again(3, 1, 3))
	})
}

// P26.1: a client that hangs up has no call; the server hears of it.
func TestHang(t *testing.T) {
	both(t, func(t *testing.T, ideal bool) {
		w := booted(t, wide(), ideal)
		w.does(api.ESTATE, hang(0))
		w.does(api.OK, dial(0))
		w.does(api.ESTATE, hang(0))
		w.does(api.OK, bring(0))
		w.does(api.ESTATE, hang(0))
		w.does(api.OK, bring(1), bring(0), say(0, "SET k 1"), hang(0))
		w.does(api.ESTATE, hang(0), say(0, "PING"))
		if w.w.Waiting(0) != 2 {
			t.Errorf("%d frames wait", w.w.Waiting(0))
		}
		w.does(api.OK, bring(0))
		w.does(api.ECLOSED, bring(0))
		w.does(api.OK, sync())
		if w.w.Waiting(1) != 0 {
			t.Error("who hung up is told something")
		}
		w.does(api.ESTATE, forge(1, 4))
		if c := w.w.Calls(); len(c) != 1 || !c[0].Done || len(c[0].Said) == 0 {
			t.Errorf("%v", c)
		}
	})
}

// P26.1: a client hangs up also when no server is up.
func TestHangAlone(t *testing.T) {
	w := booted(t, wide(), true)
	w.calls(0)
	w.does(api.OK, crash(), hang(0))
	w.does(api.ESTATE, hang(0), bring(0))
}

// P26.1: an error of a client ends its call, and no other one's.
func TestClientErrors(t *testing.T) {
	both(t, func(t *testing.T, ideal bool) {
		w := booted(t, wide(), ideal)
		w.calls(0, 1)
		w.does(api.ESTATE, forge(5, 2), forge(5))
		// An answer that is turned, in its form or in its mark.
		w.does(api.OK, dial(2), bring(4))
		x := again(5, 0, 5)
		for _, at := range []int{0, 17, 33, 64} {
			x.At, x.By = at, 1
			want := api.EAUTH
			if at == 0 {
				want = api.EFORM
			}
			w.does(api.OK, dial(2))
			w.does(want, x)
			w.does(api.ESTATE, x)
		}
		// An answer to another hello.
		w.does(api.OK, dial(2))
		w.does(api.EAUTH, bring(5))
		w.does(api.ESTATE, forge(5, 2))
		// A frame that is turned, or comes twice.
		w.says(0, "PING")
		w.says(1, "PING")
		w.does(api.OK, sync(), bring(1))
		w.does(api.EAUTH, again(1, 1, 1))
		w.does(api.ESTATE, say(0, "PING"), again(1, 1, 1))
		x = again(3, 1, 3)
		x.At, x.By = 5, 128
		w.does(api.EAUTH, x)
		w.does(api.ESTATE, bring(3))
		for _, c := range w.w.Calls()[:2] {
			if !c.Done {
				t.Errorf("%v", c)
			}
		}
		if c := w.w.Calls(); string(c[0].Got) != "+PONG\r\n" || len(c[1].Got) != 0 {
			t.Errorf("%v", c)
		}
	})
}

// P26.1: a server that goes ends no call of a client; its connection is gone.
func TestCallBehindCrash(t *testing.T) {
	both(t, func(t *testing.T, ideal bool) {
		w := booted(t, wide(), ideal)
		w.calls(0)
		w.does(api.OK, crash(), say(0, "PING"))
		w.does(api.ESTATE, bring(0))
		w.does(api.OK, boot(), say(0, "PING"))
		w.does(api.ENONE, bring(0))
		w.calls(0)
		w.says(0, "PING")
		w.synced(0)
		w.got(0, "+PONG|")
		if l := w.w.Talks(); len(l) != 2 || l[0].Keys != keysOf(1, 0, 0) || l[1].Keys != keysOf(2, 0, 1) {
			t.Errorf("%v", l)
		}
	})
}

// P26.1: a server whose connections are spent.
func TestConnSpent(t *testing.T) {
	bounds := wide()
	bounds.Conn = 2
	w := booted(t, bounds, true)
	w.calls(0, 0)
	w.does(api.OK, dial(1))
	w.does(api.ESPENT, bring(2))
	w.does(api.OK, crash(), boot(), dial(1), bring(2))
}

// known is a box of the secret that all real worlds have.
func known() *box.Box { return box.New([]byte("intaglio"), false) }

// P26.1: the secret of a real box, and the random bytes, are known: who has them can be a client.
func TestOutsideClient(t *testing.T) {
	for _, n := range []int{0, 1, 258, -2, 1 << 62} {
		w := booted(t, wide(), false)
		w.does(api.OK, tick(5))
		b := known()
		client, hello, _ := shake.Dial(b, 123, [16]byte{8, 7, 6})
		x := forge(6, hello...)
		x.N = n
		w.does(api.OK, x)
		rand := bytesOf(n)
		if n == 258 && rand != [16]byte{6: 1, 7: 2} {
			t.Fatalf("the test is wrong: %x", rand)
		}
		_, answer, _ := shake.Accept(known(), 1, 0, rand, hello)
		finish, keys, e := client.Answer(answer)
		if e != api.OK {
			t.Fatal(e)
		}
		w.does(api.OK, forge(6, finish...))
		end := pipe.New(b, keys, 0, wide())
		frame, _ := end.Seal(say(0, "ECHO abc").Text)
		w.does(api.OK, forge(6, frame...), sync())
		if l := w.w.Talks(); len(l) != 1 || l[0].Keys != keysOf(1, 0, 123) || string(l[0].Told) != "$3\r\nabc\r\n" {
			t.Errorf("%v", l)
		}
		if w.w.Waiting(7) != 2 {
			t.Errorf("%d frames wait", w.w.Waiting(7))
		}
	}
}

// P26.1: likewise, a server; the side of a client is 0, and its bounds are the world's.
func TestOutsideServer(t *testing.T) {
	for _, n := range []int{0, 1, 258, -2, 1 << 62} {
		bounds := wide()
		bounds.Seq, bounds.Epoch = 1, 1
		w := newTwin(t, bounds, 1000, false)
		x := dial(4)
		x.N = n
		w.does(api.OK, dial(5), x)
		b := known()
		_, hello, _ := shake.Dial(b, 1, bytesOf(n))
		_, answer, _ := shake.Accept(b, 8, 9, [16]byte{4}, hello)
		w.does(api.OK, forge(9, answer...))
		if c := w.call(4); !c.Done || c.Keys != keysOf(8, 9, 1) {
			t.Errorf("%v", c)
		}
		end := pipe.New(b, keysOf(8, 9, 1), 1, bounds)
		for _, text := range []string{"one", "two"} {
			frame, _ := end.Seal([]byte(text))
			w.does(api.OK, forge(9, frame...))
		}
		w.got(4, "onetwo")
		w.does(api.OK, say(4, "A"), say(4, "B"))
		w.does(api.ESPENT, say(4, "C"))
		if w.w.Waiting(8) != 4 {
			t.Errorf("%d frames wait", w.w.Waiting(8))
		}
	}
}

// P26.1, P5: an ideal box opens nothing that nobody sealed, whoever knows the secret.
func TestOutsideIdeal(t *testing.T) {
	w := booted(t, wide(), true)
	client, hello, _ := shake.Dial(known(), 123, [16]byte{8, 7, 6})
	w.does(api.OK, forge(6, hello...))
	_, answer, _ := shake.Accept(known(), 1, 0, bytesOf(0), hello)
	finish, _, _ := client.Answer(answer)
	w.does(api.EAUTH, forge(6, finish...))
	w.does(api.OK, dial(4))
	_, hello, _ = shake.Dial(known(), 0, bytesOf(77))
	_, answer, _ = shake.Accept(known(), 1, 1, bytesOf(0), hello)
	w.does(api.EAUTH, forge(9, answer...))
}
