package sample

import "lustrum/api"

// chooser goes through choices; behind the last one it takes the first of whatever there is.
type chooser struct {
	choices []byte
}

// choose a number from 0 on, below n, of at most 256.
func (c *chooser) choose(n int) int {
	if len(c.choices) == 0 || n <= 0 {
		return 0
	}
	first := int(c.choices[0])
	c.choices = c.choices[1:]
	return first % n
}

// often: in so many of ten.
func (c *chooser) often(tenths int) bool { return c.choose(10) >= 10-tenths }

func (c *chooser) word(l ...string) string { return l[c.choose(len(l))] }

func (c *chooser) values(kinds []int) []api.Value {
	var l []api.Value
	for _, kind := range kinds {
		l = append(l, c.value(kind))
	}
	return l
}

func (c *chooser) value(kind int) api.Value {
	switch {
	case kind == api.Bool:
		return api.Value{Kind: kind, N: c.choose(2)}
	case c.often(5):
		return api.Value{Kind: kind, N: c.choose(256) - 128}
	}
	return api.Value{Kind: kind, N: c.choose(10)}
}
