package shape_test

import (
	"testing"

	"trefoil/api"
	"trefoil/shape"
	"trefoil/wire"
)

// P9.6

func TestWhatIsNamedIsRead(t *testing.T) {
	names := map[string]api.Class{}
	for _, c := range classes() {
		name := shape.Name(c)
		if other, twice := names[name]; twice {
			t.Errorf("%v and %v have the name %q", other, c, name)
		}
		names[name] = c
		if got, code := shape.Parse(name); got != c || code != api.OK {
			t.Errorf("%v, named %q, is read as %v, %d", c, name, got, code)
		}
	}
	if _, code := shape.Parse("?"); code != api.ErrForm {
		t.Errorf("what may not be is read by its name: %d", code)
	}
}

func TestWhatIsReadIsNamedSo(t *testing.T) {
	named := 0
	check := func(s string) {
		if c, code := shape.Parse(s); code == api.OK {
			named++
			if shape.Name(c) != s {
				t.Errorf("%q is read as %v, named %q", s, c, shape.Name(c))
			}
		}
	}
	eachWord("smbd0123456789:", 3, check)
	eachWord("0167:x", 7, func(s string) { check("m" + s) })
	if named < 1+2*64 {
		t.Errorf("%d words were read: these try little", named)
	}
}

func TestWhatIsPutIsGot(t *testing.T) {
	forms := map[string]api.Class{}
	for _, c := range classes() {
		var w wire.Writer
		shape.Put(&w, c)
		form := w.Bytes()
		if other, twice := forms[form]; twice {
			t.Errorf("%v and %v have the form %x", other, c, form)
		}
		forms[form] = c
		r := wire.NewReader(form + "\x01")
		if got := shape.Get(r, "c"); got != c || r.Err() != nil || r.At() != len(form) {
			t.Errorf("%v, put as %x, is got as %v, %v", c, form, got, r.Err())
		}
	}
}

func TestWhatIsGotIsPutSo(t *testing.T) {
	edge := []byte{0, 1, 2, 5, 6, 7, 128, 255}
	got := 0
	for kind := range 256 {
		for bits := range 256 {
			if kind > 6 && kind < 255 && bits%50 != 0 {
				continue
			}
			for i := range len(edge) * len(edge) * len(edge) {
				form := string([]byte{byte(kind), byte(bits), edge[i/64], edge[i/8%8], edge[i%8]})
				r := wire.NewReader(form)
				c := shape.Get(r, "c")
				if r.Err() != nil {
					continue
				}
				got++
				var w wire.Writer
				shape.Put(&w, c)
				if w.Bytes() != form || shape.Check(c) != api.OK {
					t.Fatalf("%x is got as %v, put as %x", form, c, w.Bytes())
				}
			}
		}
	}
	if want := 64 + 64*4*4*4 + 1 + 64; got != want {
		t.Errorf("%d forms are those of classes, not %d", got, want)
	}
}
