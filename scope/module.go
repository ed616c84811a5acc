package scope

import (
	"selfsame/api"
	"selfsame/symfile"
)

// module is one that was read.
type module struct {
	name     string
	key      uint32
	face     api.Face
	imports  []int // numbers of the modules that the face names
	first    int   // the number of its first type
	hidden   bool
	finished bool // its import was not refused, and is over
	things   []int
}

// Import imports a module.
func (c *Scope) Import(name int, file func(string) ([]byte, bool)) (int, int) {
	if !c.is() {
		return 0, errFace
	}
	text := c.scanner.Name(name)
	n := c.imported[text]
	if _, ok := c.in(c.lists[moduleList], name); ok {
		return 0, errImported
	}
	if c.full() {
		return 0, errThings
	}
	code := 0
	known := n > 0
	if !known {
		n, code = c.read(text, file)
	} else if !c.modules[n].finished {
		code = errFace
	}
	if code != 0 {
		return 0, code
	}
	c.modules[n].hidden = false
	if !known {
		code = c.need(n, file)
	}
	if code == 0 {
		code = c.show(n, name)
	}
	c.modules[n].finished = code == 0
	if code != 0 {
		return 0, code
	}
	return n, 0
}

// show takes the things that a module shows, and declares the module.
func (c *Scope) show(n, name int) int {
	for _, o := range c.modules[n].face.Objects {
		if code := c.take(n, o); code != 0 {
			return code
		}
	}
	_, code := c.Declare(api.Thing{Class: api.ClassModule, Name: name, Value: int32(n), Module: n})
	return code
}

// ask is a file of a function that may be nil, or panic.
func ask(file func(string) ([]byte, bool), name string) (b []byte, ok bool) {
	defer func() {
		if recover() != nil {
			b, ok = nil, false
		}
	}()
	if file == nil {
		return nil, false
	}
	return file(name)
}

// read reads a module's face: its number.
func (c *Scope) read(text string, file func(string) ([]byte, bool)) (int, int) {
	if len(c.modules) > api.MaxImports {
		return 0, errImports
	}
	b, ok := ask(file, symfile.File(text))
	if !ok || len(b) > api.MaxFace {
		return 0, errFace
	}
	f, key, e := symfile.Of(b)
	if e != api.OK || f.Name != text {
		return 0, errFace
	}
	c.modules = append(c.modules, module{name: text, key: key, face: f, hidden: true})
	c.imported[text] = len(c.modules) - 1
	return len(c.modules) - 1, 0
}

// forget undoes what read did.
func (c *Scope) forget(n int) {
	delete(c.imported, c.modules[n].name)
	c.modules = c.modules[:n]
}

// need takes what a module's face needs, and its types.
func (c *Scope) need(n int, file func(string) ([]byte, bool)) int {
	f := c.modules[n].face
	for _, i := range f.Imports {
		if c.scanner.Intern(i.Name) < 0 {
			return errNames
		}
	}
	for _, i := range f.Imports {
		k, code := c.hidden(i, file)
		if code != 0 {
			return code
		}
		c.modules[n].imports = append(c.modules[n].imports, k)
	}
	c.modules[n].first = c.table.Len() + 1
	for i, t := range f.Types {
		if code := c.takeType(n, i, t); code != 0 {
			return code
		}
	}
	return 0
}

// hidden imports a module that a face names, unless it is there: its number.
func (c *Scope) hidden(i api.Import, file func(string) ([]byte, bool)) (int, int) {
	if n := c.imported[i.Name]; n > 0 {
		if !c.modules[n].finished || c.modules[n].key != i.Key {
			return 0, errFace
		}
		return n, 0
	}
	n, code := c.read(i.Name, file)
	if code != 0 {
		return 0, code
	}
	if c.modules[n].key != i.Key {
		c.forget(n)
		return 0, errFace
	}
	code = c.need(n, file)
	c.modules[n].finished = code == 0
	return n, code
}

// typeOf is the number of a type that module n's face refers to.
func (c *Scope) typeOf(n int, r api.Ref) (int, int) {
	m := &c.modules[n]
	i := r.Index - api.FirstType
	switch {
	case r.Module == 0 && i < 0:
		return r.Index, 0
	case r.Module == 0:
		return m.first + i, 0
	}
	m = &c.modules[m.imports[r.Module-1]]
	if i >= len(m.face.Types) || m.face.Types[i].Form == api.FormOpen {
		return 0, errFace
	}
	return m.first + i, 0
}

func (c *Scope) takeType(n, place int, t api.FaceType) int {
	x := api.Type{Form: t.Form, Length: t.Length, Size: t.Size, Module: n, Ref: place}
	code := 0
	switch t.Form {
	case api.FormOpen:
		x.Size = openSize
	case api.FormPointer:
		x.Size = pointerSize
	}
	if t.Form != api.FormRecord {
		x.Base, code = c.typeOf(n, t.Base)
		if code != 0 {
			return code
		}
	}
	for _, f := range t.Fields {
		typ, code := c.typeOf(n, f.Base)
		if code != 0 {
			return code
		}
		name := c.scanner.Intern(f.Name)
		if name < 0 {
			return errNames
		}
		x.Fields = append(x.Fields, api.Field{Name: name, Offset: f.Offset, Type: typ})
	}
	_, code = c.table.Import(x)
	return code
}

// take takes a thing that module n shows.
func (c *Scope) take(n int, o api.FaceObject) int {
	x := api.Thing{Class: o.Class, Value: int32(o.Value), Module: n, Shown: true, Fixed: o.Class == api.ClassVar}
	code := 0
	x.Type, code = c.typeOf(n, o.Base)
	if code != 0 {
		return code
	}
	for _, p := range o.Params {
		typ, code := c.typeOf(n, p.Base)
		if code != 0 {
			return code
		}
		x.Params = append(x.Params, api.Param{Var: p.Var, Type: typ})
	}
	if c.full() {
		return errThings
	}
	if x.Name = c.scanner.Intern(o.Name); x.Name < 0 {
		return errNames
	}
	c.modules[n].things = append(c.modules[n].things, len(c.things))
	c.things = append(c.things, x)
	return 0
}

// FindIn is what a module exports under a name.
func (c *Scope) FindIn(module, name int) (int, bool) {
	if !c.is() || module < 1 || module >= len(c.modules) || c.modules[module].hidden {
		return 0, false
	}
	return c.in(c.modules[module].things, name)
}

// Imports are the modules that are not hidden.
func (c *Scope) Imports() []api.Import {
	var l []api.Import
	if c.is() {
		for _, m := range c.modules[1:] {
			if !m.hidden {
				l = append(l, api.Import{Name: m.name, Key: m.key})
			}
		}
	}
	return l
}

// Face is what the module's list exports.
func (c *Scope) Face(name int) (api.Face, bool) {
	if !c.is() {
		return api.Face{}, false
	}
	f := api.Face{Name: c.scanner.Name(name)}
	ref := c.referrer(&f)
	for _, n := range c.lists[moduleList] {
		x := c.things[n]
		if !x.Shown || x.Class < api.ClassConst || x.Class > api.ClassProc {
			continue
		}
		o := api.FaceObject{Class: x.Class, Name: c.scanner.Name(x.Name), Base: ref(x.Type)}
		if x.Class != api.ClassType {
			o.Value = uint32(x.Value)
		}
		for _, p := range x.Params {
			o.Params = append(o.Params, api.FaceParam{Var: p.Var, Base: ref(p.Type)})
		}
		f.Objects = append(f.Objects, o)
	}
	if !symfile.May(f) {
		return api.Face{}, false
	}
	return f, true
}

// referrer tells references to types, and lays the types that they lead to into the face.
func (c *Scope) referrer(f *api.Face) func(int) api.Ref {
	places, modules := map[int]int{}, map[int]int{}
	var ref func(int) api.Ref
	ref = func(n int) api.Ref {
		t, _ := c.table.Get(n)
		switch {
		case n <= api.TypeNil:
			return api.Ref{Index: n}
		case t.Module > 0 && t.Module < len(c.modules):
			if modules[t.Module] == 0 {
				m := c.modules[t.Module]
				f.Imports = append(f.Imports, api.Import{Name: m.name, Key: m.key})
				modules[t.Module] = len(f.Imports)
			}
			return api.Ref{Module: modules[t.Module], Index: api.FirstType + t.Ref}
		}
		if places[n] == 0 {
			place := len(f.Types)
			places[n] = api.FirstType + place
			f.Types = append(f.Types, api.FaceType{})
			x := c.faceType(t, ref) // it makes the list longer
			f.Types[place] = x
		}
		return api.Ref{Index: places[n]}
	}
	return ref
}

func (c *Scope) faceType(t api.Type, ref func(int) api.Ref) api.FaceType {
	x := api.FaceType{Form: t.Form, Length: t.Length}
	if t.Form == api.FormArray || t.Form == api.FormRecord {
		x.Size = t.Size
	}
	if t.Form != api.FormRecord {
		x.Base = ref(t.Base)
	}
	for _, f := range t.Fields {
		x.Fields = append(x.Fields, api.FaceField{Name: c.scanner.Name(f.Name), Offset: f.Offset, Base: ref(f.Type)})
	}
	return x
}
