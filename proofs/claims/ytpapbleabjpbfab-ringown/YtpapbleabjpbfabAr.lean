import Derived.Test.YtpapbleabjpbfabKn
namespace Go.Proofs.Ytpapbleabjpbfab
open Go.RowKit
set_option linter.unusedVariables false

/-- A configuration that came in. -/
structure Cfg where
  a : Option Addr
  n : Nat
  c : Nat
  zs : List Int
  f : Int
  p : Int
  bu : Int
  bl : Int
  ro : Int
structure CfgOk (w : World) (x : Cfg) : Prop where
  nums : Nums .i64 w x.a x.zs
  len : x.zs.length = x.n
  all : AllI x.zs
  le : x.n ≤ 17592186043904
  i0 : I64 x.f
  i1 : I64 x.p
  i2 : I64 x.bu
def Cfgs (w : World) (a : Option Addr) (xs : List Cfg) : Prop := ∀ (i : Nat) (x : Cfg), xs[i]? = some x → ∃ b off, a = some ⟨b, off, none⟩ ∧
  w.cell? ⟨b, off + i * 6, none⟩ = some (.slice x.a x.n x.c) ∧ w.cell? ⟨b, off + i * 6 + 1, none⟩ = some (.int .i64 x.f) ∧ w.cell? ⟨b, off + i * 6 + 2, none⟩ = some (.int .i64 x.p) ∧
  w.cell? ⟨b, off + i * 6 + 3, none⟩ = some (.int .i64 x.bu) ∧ w.cell? ⟨b, off + i * 6 + 4, none⟩ = some (.int .i64 x.bl) ∧ w.cell? ⟨b, off + i * 6 + 5, none⟩ = some (.int .i64 x.ro)
theorem CfgOk.no {w w' : World} {x : Cfg} (h : CfgOk w x) (hk : Kept No w w') : CfgOk w' x := ⟨h.nums.no hk, h.len, h.all, h.le, h.i0, h.i1, h.i2⟩
theorem Cfgs.no {w w' : World} {a : Option Addr} {xs : List Cfg} (h : Cfgs w a xs) (hk : Kept No w w') : Cfgs w' a xs := by
  intro i x hx
  obtain ⟨b, off, rfl, h0, h1, h2, h3, h4, h5⟩ := h i x hx
  exact ⟨b, off, rfl, hk.cell h0 id, hk.cell h1 id, hk.cell h2 id, hk.cell h3 id, hk.cell h4 id, hk.cell h5 id⟩

/-- A key that came in. -/
structure Ky where
  kd : Int
  a : Int
  b : Int
  c : Int
def Keys (w : World) (a : Option Addr) (xs : List Ky) : Prop := ∀ (i : Nat) (x : Ky), xs[i]? = some x → ∃ b off, a = some ⟨b, off, none⟩ ∧
  w.cell? ⟨b, off + i * 4, none⟩ = some (.int .i64 x.kd) ∧ w.cell? ⟨b, off + i * 4 + 1, none⟩ = some (.int .i64 x.a) ∧ w.cell? ⟨b, off + i * 4 + 2, none⟩ = some (.int .i64 x.b) ∧ w.cell? ⟨b, off + i * 4 + 3, none⟩ = some (.int .i64 x.c)
theorem Keys.no {w w' : World} {a : Option Addr} {xs : List Ky} (h : Keys w a xs) (hk : Kept No w w') : Keys w' a xs := by
  intro i x hx
  obtain ⟨b, off, rfl, h0, h1, h2, h3⟩ := h i x hx
  exact ⟨b, off, rfl, hk.cell h0 id, hk.cell h1 id, hk.cell h2 id, hk.cell h3 id⟩

theorem toBelow {f : FuncId} {args : Array Value} {W : World} {v : Value} (h : Calls Try.prog f args W fun e w' => e = .returned v ∧ Kept No W w') : Calls Try.prog f args W fun e w' => e = .returned v ∧ Below W.heap.size W w' :=
  h.mono fun _ _ ⟨he, hk⟩ => ⟨he, hk.below (Nat.le_refl _) (fun _ e => e.elim)⟩

theorem kept_regrown (w : World) (d : Nat) (os : Array Obj) : Kept No w (Sort.grow (redrawn w d) os) := Kept.of_below (below_regrown w d os)

theorem beq_refl (b : Bool) : (b == b) = true := by simp

end Go.Proofs.Ytpapbleabjpbfab
