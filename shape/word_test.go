package shape_test

import (
	"math/rand"
	"regexp"
	"strconv"
	"strings"
	"testing"

	"trefoil/api"
	"trefoil/shape"
)

// P9.5

func TestName(t *testing.T) {
	for c, want := range map[api.Class]string{
		scalar(1):           "s1",
		scalar(32):          "s32",
		scalar(64):          "s64",
		matrix(16, 2, 3, 4): "m16:2x3x4",
		matrix(8, 6, 1, 3):  "m8:6x1x3",
		bit:                 "b",
		daBit(10):           "d10",
		daBit(64):           "d64",
		scalar(0):           "?",
		scalar(65):          "?",
		scalar(-8):          "?",
		matrix(8, 1, 1, 7):  "?",
		{}:                  "?",
		{Kind: 5}:           "?",
	} {
		if got := shape.Name(c); got != want {
			t.Errorf("Name of %v is %q, not %q", c, got, want)
		}
	}
}

func TestNameOfWhatMayNotBe(t *testing.T) {
	for c := range wrongs() {
		if got := shape.Name(c); got != "?" {
			t.Errorf("Name of %v is %q", c, got)
		}
	}
}

func parsed(t *testing.T, s string, c api.Class, code api.Errno) {
	t.Helper()
	if got, e := shape.Parse(s); got != c || e != code {
		t.Errorf("Parse of %.40q is %v, %d, not %v, %d", s, got, e, c, code)
	}
}

func TestParse(t *testing.T) {
	parsed(t, "s1", scalar(1), api.OK)
	parsed(t, "s64", scalar(64), api.OK)
	parsed(t, "b", bit, api.OK)
	parsed(t, "d7", daBit(7), api.OK)
	parsed(t, "m16:2x3x4", matrix(16, 2, 3, 4), api.OK)
	parsed(t, "m64:6x6x6", matrix(64, 6, 6, 6), api.OK)
}

func TestParseOfNoWord(t *testing.T) {
	for _, s := range []string{
		"", " ", "?", "s", "m", "d", "8", "0", ":", "x", "\x00", "\xff", "é",
		"q3", "S8", "M8:1x1x1", "B", "D8", "c", "n8:1x1x1", " s8", "s8 ", "s 8", "s8\n", "\ns8", "b\n", "b\x00",
		"s08", "s00", "s0", "s064", "d0", "d01", "m0:1x1x1", "m08:1x1x1", "m8:0x1x1", "m8:1x0x1", "m8:1x1x0", "m8:01x1x1", "m8:1x01x1", "m8:1x1x01",
		"s+8", "s-8", "s8a", "sa", "s8.", "s0x8", "s1_0", "s1e1", "s٣", "s８", "d-1", "m+8:1x1x1", "m8:-1x1x1", "m8:1x+1x1", "m8:1x1xa", "s/", "s1/", "s:", "s1;",
		"s1000", "s0064", "s99999999999999999999", "s18446744073709551624", "d1000", "m1000:1x1x1", "m8:1000x1x1", "m8:1x1000x1", "m8:1x1x1000", "m8:1x1x18446744073709551617",
		"bb", "b1", "b0", "b8", "b:", "b:1x1x1", "b1:1x1x1", "sb", "ss8", "dd8", "mm8:1x1x1",
		"s8:", "s:8", "s8:1x1x1", "d8:", "d8:1x1x1", "s8x1x1x1", "d:",
		"m8", "m8x1x1x1", "m8:", "m:", "m:1x1x1", "m81x1x1", "m8::1x1x1", "m8:1x1x1:", "m8:1:1x1", "m8:1:1:1", ":m8:1x1x1", "m8;1x1x1",
		"m8:1", "m8:1x", "m8:1x1", "m8:1x1x", "m8:x1x1", "m8:1xx1", "m8:xx", "m8:1x1x1x", "m8:1x1x1x1", "m8:x1x1x1", "m8:1x1x1x1x1", "m8:1X1X1", "m8:1*1*1", "m8:1x1x1 ", "m8: 1x1x1", "m8:1 x1x1", "m8:111",
		strings.Repeat("s", 1<<20), "s" + strings.Repeat("1", 1<<20), "s" + strings.Repeat("0", 1<<20) + "8", "m8:" + strings.Repeat("x", 1<<20), "m8:1x1x" + strings.Repeat("1x", 1<<20), strings.Repeat(":", 1<<20),
	} {
		parsed(t, s, api.Class{}, api.ErrForm)
	}
	parsed(t, "m65:1x1", api.Class{}, api.ErrForm) // the form is asked first
	parsed(t, "m999:9x9x9x9", api.Class{}, api.ErrForm)
}

func TestParseOfEachByteThatIsWrong(t *testing.T) {
	for _, word := range []string{"s12", "b", "d34", "m12:3x4x5"} {
		for i := range len(word) {
			for x := range 256 {
				s := word[:i] + string([]byte{byte(x)}) + word[i+1:]
				c, code := slow(s)
				parsed(t, s, c, code)
				s = word[:i] + string([]byte{byte(x)}) + word[i:]
				c, code = slow(s)
				parsed(t, s, c, code)
			}
			s := word[:i] + word[i+1:]
			c, code := slow(s)
			parsed(t, s, c, code)
		}
	}
}

func TestParseOfWhatMayNotBe(t *testing.T) {
	for _, s := range []string{
		"s65", "s99", "s100", "s256", "s257", "s264", "s999", "d65", "d320", "d999",
		"m65:1x1x1", "m256:1x1x1", "m999:1x1x1", "m8:7x1x1", "m8:1x7x1", "m8:1x1x7", "m8:1x1x10", "m8:257x1x1", "m8:1x999x1", "m999:999x999x999",
	} {
		parsed(t, s, api.Class{}, api.ErrShape)
	}
}

func number(s string) int {
	x, err := strconv.Atoi(s)
	if err != nil {
		panic(err)
	}
	return x
}

var (
	plainWord  = regexp.MustCompile(`^([sd])([1-9][0-9]?[0-9]?)$`)
	matrixWord = regexp.MustCompile(`^m([1-9][0-9]?[0-9]?):([1-9][0-9]?[0-9]?)x([1-9][0-9]?[0-9]?)x([1-9][0-9]?[0-9]?)$`)
)

// slow parses by expressions.
func slow(s string) (api.Class, api.Errno) {
	if s == "b" {
		return bit, api.OK
	}
	if found := plainWord.FindStringSubmatch(s); found != nil {
		c := api.Class{Kind: map[string]int{"s": 1, "d": 4}[found[1]], Bits: number(found[2])}
		if c.Bits > 64 {
			return api.Class{}, api.ErrShape
		}
		return c, api.OK
	}
	if found := matrixWord.FindStringSubmatch(s); found != nil {
		c := matrix(number(found[1]), number(found[2]), number(found[3]), number(found[4]))
		if c.Bits > 64 || max(c.M, c.K, c.N) > 6 {
			return api.Class{}, api.ErrShape
		}
		return c, api.OK
	}
	return api.Class{}, api.ErrForm
}

// eachWord calls with every word of at most so many signs.
func eachWord(signs string, most int, call func(s string)) {
	call("")
	if most == 0 {
		return
	}
	eachWord(signs, most-1, func(s string) {
		for i := range len(signs) {
			if len(s) == most-1 {
				call(s + signs[i:i+1])
			}
		}
		if s != "" {
			call(s)
		}
	})
}

func TestParseOfShortWords(t *testing.T) {
	count := 0
	eachWord("smbd0167:x", 5, func(s string) {
		count++
		c, code := slow(s)
		parsed(t, s, c, code)
	})
	if count != 111111 {
		t.Errorf("there were %d words", count)
	}
	eachWord("017:x", 7, func(s string) {
		c, code := slow("m" + s)
		parsed(t, "m"+s, c, code)
	})
}

func TestParseOfAnyWords(t *testing.T) {
	r := rand.New(rand.NewSource(1))
	all := classes()
	signs := "smbd0123456789:x+- \x00\xff"
	codes := map[api.Errno]int{}
	for range 200000 {
		s := []byte(shape.Name(all[r.Intn(len(all))]))
		for range r.Intn(4) {
			i, sign := r.Intn(len(s)+1), signs[r.Intn(len(signs))]
			switch {
			case r.Intn(2) == 0:
				s = append(s[:i:i], append([]byte{sign}, s[i:]...)...)
			case i == len(s):
			case r.Intn(2) == 0:
				s[i] = sign
			default:
				s = append(s[:i:i], s[i+1:]...)
			}
		}
		c, code := slow(string(s))
		parsed(t, string(s), c, code)
		codes[code]++
	}
	for _, code := range []api.Errno{api.OK, api.ErrForm, api.ErrShape} {
		if codes[code] < 5000 {
			t.Errorf("the error %d came %d times: these words try little", code, codes[code])
		}
	}
}
