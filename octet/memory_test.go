package octet

import (
	"bytes"
	"slices"
	"testing"

	"gatepath/api"
)

// Arguments are only read, with the memory behind them; results share no memory, and nothing is kept (R2).

// roomy returns a copy of v whose slices all have room behind them, with something in it.
func roomy(v api.Octet) api.Octet {
	room := bytes.Repeat([]byte{238}, len(v.Bytes)+9)
	copy(room, v.Bytes)
	list := make([]api.Octet, len(v.List)+2)
	for i, x := range v.List {
		list[i] = roomy(x)
	}
	for i := len(v.List); i < len(list); i++ {
		list[i] = api.Octet{Tag: 77, Bytes: []byte{7}}
	}
	return api.Octet{Tag: v.Tag, Bytes: room[:len(v.Bytes)], List: list[:len(v.List)]}
}

// whole shows a value with the room behind its slices.
func whole(v api.Octet) string {
	x := api.Octet{Tag: v.Tag, Bytes: v.Bytes[:cap(v.Bytes)]}
	for _, y := range v.List[:cap(v.List)] {
		x.List = append(x.List, api.Octet{Tag: 1, Bytes: []byte(whole(y))})
	}
	return show(x)
}

// spoil overwrites all slices of a value, with the room behind them.
func spoil(v api.Octet) {
	for _, x := range v.List {
		spoil(x)
	}
	fill(v.Bytes, 99)
	list := v.List[:cap(v.List)]
	for i := range list {
		list[i] = api.Octet{Tag: 66, Bytes: []byte{6}}
	}
}

// fill overwrites bytes, with the room behind them.
func fill(b []byte, c byte) {
	b = b[:cap(b)]
	for i := range b {
		b[i] = c
	}
}

// smaller are some of anyValues, none of them large.
func smaller() []api.Octet {
	return slices.DeleteFunc(anyValues(), func(v api.Octet) bool {
		values, _ := modelCount(v)
		return values > 100 || len(modelEncode(v)) > 1000
	})
}

func TestOnlyRead(t *testing.T) {
	for _, v := range smaller() {
		v = roomy(v)
		before := whole(v)
		Check(v)
		Encode(v)
		Twin(v)
		Same(v, v)
		Seq(128, v.List...)
		ReadNum(v, v.Tag, 1<<40)
		ReadStr(v, v.Tag, 1<<40)
		ReadSeq(v, v.Tag, 0, 1<<40)
		if whole(v) != before {
			t.Fatal(brief(v))
		}
		b := modelEncode(v)
		memory := append(slices.Clone(b), 238, 238, 238)
		Decode(memory[:len(b)])
		if !bytes.Equal(memory, append(slices.Clone(b), 238, 238, 238)) {
			t.Fatal(brief(v))
		}
	}
}

func TestNothingShared(t *testing.T) {
	for _, v := range smaller() {
		v = roomy(v)
		before := whole(v)
		spoil(Twin(v))
		spoil(Seq(128, v.List...))
		spoil(Seq(128, v))
		list, _ := ReadSeq(v, v.Tag, 0, 1<<40)
		spoil(api.Octet{List: list})
		b, e := Encode(v)
		fill(b, 99)
		if whole(v) != before {
			t.Fatal(brief(v))
		}
		if e != api.OK {
			continue
		}
		again := encoded(t, v)
		x, _ := Decode(again)
		spoil(x)
		if !bytes.Equal(again, modelEncode(v)) {
			t.Fatal(brief(v))
		}
		x, _ = Decode(again)
		fill(again, 99)
		if show(x) != show(v) {
			t.Fatal(brief(v))
		}
	}
}

// TestPartsShareNothing has results whose parts are of the same memory in the argument.
func TestPartsShareNothing(t *testing.T) {
	for _, v := range smaller() {
		twice := api.Octet{Tag: 128, List: []api.Octet{v, v, v}}
		list, e := ReadSeq(twice, 128, 3, 3)
		if e != api.OK {
			t.Fatal(e)
		}
		results := []api.Octet{Twin(twice), Seq(128, v, v, v), {Tag: 128, List: list}}
		if b, e := Encode(twice); e == api.OK {
			x, _ := Decode(b)
			results = append(results, x)
		}
		for i, x := range results {
			if show(x) != show(twice) {
				t.Fatal(i, brief(v))
			}
			spoil(x.List[0])
			if show(x.List[1]) != show(v) || show(x.List[2]) != show(v) {
				t.Fatal(i, brief(v))
			}
		}
	}
}
