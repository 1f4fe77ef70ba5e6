import Derived.Test.YtcgnbpaaalmkoabRa
namespace Go.Proofs.Ytcgnbpaaalmkoab
open Go.RowKit
set_option linter.unusedVariables false
set_option linter.unusedSimpArgs false

/-- Stamp, key, address, instance, place, block, held, message, change: as cells. -/
structure Sp where
  n : Int
  c : Int
structure Ky where
  k : Int
  a : Int
  b : Int
  c : Int
structure Ad where
  cl : Bool
  id : Int
structure In where
  p : Sp
  a : Sp
  c : Cm
  d : Bool
structure Pl where
  n : Int
  i : In
structure Bl where
  s : Sp
  d : Sl
structure Hd where
  b : Bl
  k : Bv
  r : Sl
structure Mg where
  k : Int
  fr : Ad
  to : Ad
  op : Int
  rd : Int
  ky : Ky
  st : Sp
  hd : Sp
  bl : Sl
  c : Cm
  bk : Bv
  cm : Sl
  mo : Bool
structure Ch where
  ky : Ky
  b : Bl
  i : In
  bk : Bv
def spZ : Sp := ⟨0, 0⟩
def kyZ : Ky := ⟨0, 0, 0, 0⟩
def adZ : Ad := ⟨false, 0⟩
def inZ : In := ⟨spZ, spZ, cZ, false⟩
def plZ : Pl := ⟨0, inZ⟩
def blZ : Bl := ⟨spZ, slZ⟩
def hdZ : Hd := ⟨blZ, bvZ, slZ⟩
def mgZ : Mg := ⟨0, adZ, adZ, 0, 0, kyZ, spZ, spZ, slZ, cZ, bvZ, slZ, false⟩
def chZ : Ch := ⟨kyZ, blZ, inZ, bvZ⟩
instance : Inhabited Pl := ⟨plZ⟩
def Sp.cs (s : Sp) : List Value := [.int .i64 s.n, .int .i64 s.c]
def Ky.cs (s : Ky) : List Value := [.int .i64 s.k, .int .i64 s.a, .int .i64 s.b, .int .i64 s.c]
def Ad.cs (s : Ad) : List Value := [.bool s.cl, .int .i64 s.id]
def In.cs (s : In) : List Value := s.p.cs ++ (s.a.cs ++ (s.c.cs ++ [.bool s.d]))
def Pl.cs (s : Pl) : List Value := [.int .i64 s.n] ++ s.i.cs
def Bl.cs (s : Bl) : List Value := s.s.cs ++ [s.d.v]
def Hd.cs (s : Hd) : List Value := s.b.cs ++ (s.k.cs ++ [s.r.v])
def Mg.cs (m : Mg) : List Value := [.int .i64 m.k] ++ (m.fr.cs ++ (m.to.cs ++ ([.int .i64 m.op, .int .i64 m.rd] ++ (m.ky.cs ++ (m.st.cs ++ (m.hd.cs ++ ([m.bl.v] ++ (m.c.cs ++ (m.bk.cs ++ [m.cm.v, .bool m.mo])))))))))
def Ch.cs (s : Ch) : List Value := s.ky.cs ++ (s.b.cs ++ (s.i.cs ++ s.bk.cs))
def Sp.cells (s : Sp) : Array Value := s.cs.toArray
def Ky.cells (s : Ky) : Array Value := s.cs.toArray
def Ad.cells (s : Ad) : Array Value := s.cs.toArray
def In.cells (s : In) : Array Value := s.cs.toArray
def Pl.cells (s : Pl) : Array Value := s.cs.toArray
def Bl.cells (s : Bl) : Array Value := s.cs.toArray
def Hd.cells (s : Hd) : Array Value := s.cs.toArray
def Mg.cells (s : Mg) : Array Value := s.cs.toArray
def Ch.cells (s : Ch) : Array Value := s.cs.toArray
theorem Sp.oneL (s : Sp) : ∀ v ∈ s.cs, v.oneCell' = true := by simp [Sp.cs, Value.oneCell']
theorem Ky.oneL (s : Ky) : ∀ v ∈ s.cs, v.oneCell' = true := by simp [Ky.cs, Value.oneCell']
theorem Ad.oneL (s : Ad) : ∀ v ∈ s.cs, v.oneCell' = true := by simp [Ad.cs, Value.oneCell']
theorem In.oneL (s : In) : ∀ v ∈ s.cs, v.oneCell' = true := by simp [In.cs, Sp.cs, Cm.cs, Value.oneCell']
theorem Pl.oneL (s : Pl) : ∀ v ∈ s.cs, v.oneCell' = true := by simp [Pl.cs, In.cs, Sp.cs, Cm.cs, Value.oneCell']
theorem Bl.oneL (s : Bl) : ∀ v ∈ s.cs, v.oneCell' = true := by simp [Bl.cs, Sp.cs, Sl.v, Value.oneCell']
theorem Bv.oneL (s : Bv) : ∀ v ∈ s.cs, v.oneCell' = true := by simp [Bv.cs, Sl.v, Value.oneCell']
theorem Hd.oneL (s : Hd) : ∀ v ∈ s.cs, v.oneCell' = true := by simp [Hd.cs, Bl.cs, Bv.cs, Sp.cs, Sl.v, Value.oneCell']
theorem Mg.oneL (s : Mg) : ∀ v ∈ s.cs, v.oneCell' = true := by simp [Mg.cs, Ky.cs, Ad.cs, Bv.cs, Sp.cs, Cm.cs, Sl.v, Value.oneCell']
theorem Ch.oneL (s : Ch) : ∀ v ∈ s.cs, v.oneCell' = true := by simp [Ch.cs, Bl.cs, In.cs, Ky.cs, Bv.cs, Sp.cs, Cm.cs, Sl.v, Value.oneCell']
theorem part_of {cs sub : List Value} {off : Nat} (h : (cs.drop off).take sub.length = sub) : Part cs off sub := fun j v hj => by
  have hlt := (List.getElem?_eq_some_iff.1 hj).1
  rw [← h, List.getElem?_take_of_lt hlt, List.getElem?_drop] at hj
  exact hj
theorem run_store_to {w : World} {g off : Nat} {T ty : TypeId} {cur vs new : List Value} {v : Value} (hb : Box w g T cur.toArray) (hv : v.cells = vs.toArray) (hi : (Try.prog.info? ty).map (·.size) = some vs.length)
    (hl : off + vs.length ≤ cur.length) (h1 : ∀ x ∈ vs, x.oneCell' = true) (hn : putL cur off vs = new) : (storeVar ty ⟨g, off, none⟩ v).run Try.prog w = .ok () (w.setRow g new.toArray) := by
  rw [run_store_at hb hv hi hl h1, hn]
theorem Try.und23 : Try.prog.underlying 39 = some (.struct (Try.prog.fieldsOf 39)) := by kernel_rfl
theorem Try.size23 : (Try.prog.info? 39).map (·.size) = some 4 := by kernel_rfl
theorem zero23 : (Try.prog.info? 39).bind (·.zero) = some (.agg kyZ.cells) := by kernel_rfl
theorem Try.und25 : Try.prog.underlying 23 = some (.struct (Try.prog.fieldsOf 23)) := by kernel_rfl
theorem Try.size25 : (Try.prog.info? 23).map (·.size) = some 2 := by kernel_rfl
theorem zero25 : (Try.prog.info? 23).bind (·.zero) = some (.agg spZ.cells) := by kernel_rfl
theorem Try.und28 : Try.prog.underlying 26 = some (.struct (Try.prog.fieldsOf 26)) := by kernel_rfl
theorem Try.size28 : (Try.prog.info? 26).map (·.size) = some 3 := by kernel_rfl
theorem Try.und35 : Try.prog.underlying 33 = some (.struct (Try.prog.fieldsOf 33)) := by kernel_rfl
theorem Try.size35 : (Try.prog.info? 33).map (·.size) = some 7 := by kernel_rfl
theorem Try.und40 : Try.prog.underlying 49 = some (.struct (Try.prog.fieldsOf 49)) := by kernel_rfl
theorem Try.size40 : (Try.prog.info? 49).map (·.size) = some 7 := by kernel_rfl
theorem zero40 : (Try.prog.info? 49).bind (·.zero) = some (.agg hdZ.cells) := by kernel_rfl
theorem Try.und43 : Try.prog.underlying 37 = some (.struct (Try.prog.fieldsOf 37)) := by kernel_rfl
theorem Try.size43 : (Try.prog.info? 37).map (·.size) = some 2 := by kernel_rfl
theorem zero43 : (Try.prog.info? 37).bind (·.zero) = some (.agg adZ.cells) := by kernel_rfl
theorem Try.und50 : Try.prog.underlying 46 = some (.struct (Try.prog.fieldsOf 46)) := by kernel_rfl
theorem Try.size50 : (Try.prog.info? 46).map (·.size) = some 30 := by kernel_rfl
theorem zero50 : (Try.prog.info? 46).bind (·.zero) = some (.agg mgZ.cells) := by kernel_rfl
theorem Try.und70 : Try.prog.underlying 65 = some (.struct (Try.prog.fieldsOf 65)) := by kernel_rfl
theorem Try.size70 : (Try.prog.info? 65).map (·.size) = some 14 := by kernel_rfl
theorem zero70 : (Try.prog.info? 65).bind (·.zero) = some (.agg inZ.cells) := by kernel_rfl
theorem Try.size88 : (Try.prog.info? 67).map (·.size) = some 24 := by kernel_rfl
theorem Try.und87 : Try.prog.underlying 70 = some (.struct (Try.prog.fieldsOf 70)) := by kernel_rfl
theorem Try.size87 : (Try.prog.info? 70).map (·.size) = some 15 := by kernel_rfl
theorem Try.und89 : Try.prog.underlying 73 = some (.struct (Try.prog.fieldsOf 73)) := by kernel_rfl
theorem Try.und26 : Try.prog.underlying 24 = some (.slice 5) := by kernel_rfl
theorem Try.und26e : Try.prog.underlying 24 = some (.slice (Try.prog.elem 24)) := by kernel_rfl
theorem Try.size26 : (Try.prog.info? 24).map (·.size) = some 1 := by kernel_rfl
theorem Try.size26e : (Try.prog.info? (Try.prog.elem 24)).map (·.size) = some 1 := by kernel_rfl
theorem Try.und33 : Try.prog.underlying 31 = some (.slice 73) := by kernel_rfl
theorem Try.und33e : Try.prog.underlying 31 = some (.slice (Try.prog.elem 31)) := by kernel_rfl
theorem Try.size33e : (Try.prog.info? (Try.prog.elem 31)).map (·.size) = some 15 := by kernel_rfl
theorem Try.und38 : Try.prog.underlying 47 = some (.slice 70) := by kernel_rfl
theorem Try.und38e : Try.prog.underlying 47 = some (.slice (Try.prog.elem 47)) := by kernel_rfl
theorem Try.size38e : (Try.prog.info? (Try.prog.elem 47)).map (·.size) = some 15 := by kernel_rfl
theorem Try.und61 : Try.prog.underlying 56 = some (.slice 67) := by kernel_rfl
theorem Try.und61e : Try.prog.underlying 56 = some (.slice (Try.prog.elem 56)) := by kernel_rfl
theorem Try.size61e : (Try.prog.info? (Try.prog.elem 56)).map (·.size) = some 24 := by kernel_rfl
theorem Try.und64 : Try.prog.underlying 59 = some (.slice 89) := by kernel_rfl
theorem Try.und64e : Try.prog.underlying 59 = some (.slice (Try.prog.elem 59)) := by kernel_rfl
theorem Try.size64e : (Try.prog.info? (Try.prog.elem 59)).map (·.size) = some 24 := by kernel_rfl
theorem zero48 : (Try.prog.info? 44).bind (·.zero) = some (.slice none 0 0) := by kernel_rfl
theorem zero3 : (Try.prog.info? 3).bind (·.zero) = some (.int .i64 0) := by kernel_rfl
theorem Try.size48 : (Try.prog.info? 44).map (·.size) = some 1 := by kernel_rfl
theorem Try.size5 : (Try.prog.info? 5).map (·.size) = some 1 := by kernel_rfl
theorem Try.und5 : Try.prog.underlying 5 = some (.int .u8) := by kernel_rfl
theorem Try.info87 : (Try.prog.info? 70).map (fun i => (i.zero, i.size, i.bytes)) = some (some (.agg plZ.cells), 15, 128) := by kernel_rfl
theorem Try.info88 : (Try.prog.info? 67).map (fun i => (i.zero, i.size, i.bytes)) = some (some (.agg chZ.cells), 24, 248) := by kernel_rfl
theorem Try.info72 : (Try.prog.info? 89).map (fun i => (i.zero, i.size, i.bytes)) = some (some (.agg chZ.cells), 24, 248) := by kernel_rfl
theorem Try.info47 : (Try.prog.info? 43).map (fun i => (i.zero, i.size, i.bytes)) = some (some (.agg cZ.cells), 9, 80) := by kernel_rfl
theorem Try.info5 : (Try.prog.info? 5).map (fun i => (i.zero, i.size, i.bytes)) = some (some (.int .u8 0), 1, 1) := by kernel_rfl
end Go.Proofs.Ytcgnbpaaalmkoab
