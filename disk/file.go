package disk

import "intaglio/api"

// file is what a file has; the first ones of its bytes are kept.
type file struct {
	data []byte
	kept int
}

// whole is a file of bytes that are all kept.
func whole(data []byte) file { return file{data, len(data)} }

// torn is what a crash leaves of a file: what is kept, and some of the rest.
func (f file) torn(cut int) file {
	loose := len(f.data) - f.kept
	return whole(f.data[:f.kept+int(uint64(cut)%uint64(loose+1))])
}

// named tells whether a file may have this name.
func named(name string) bool { return len(name) >= 1 && len(name) <= api.MaxName }

// mayBe tells whether there can be such a file.
func mayBe(f api.File) bool {
	return named(f.Name) && len(f.Data) <= api.MaxFile && f.Kept >= 0 && f.Kept <= len(f.Data)
}
