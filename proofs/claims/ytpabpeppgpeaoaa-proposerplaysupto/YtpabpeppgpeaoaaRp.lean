import Derived.Test.YtpabpeppgpeaoaaRo
namespace Go.Proofs.Ytpabpeppgpeaoaa
open Go.RowKit Gt
set_option linter.unusedVariables false
set_option linter.unusedSimpArgs false

def cE (e : En) : Md.En := ⟨e.nm, e.f0, e.f1, e.sz⟩
def cL (e : La) : Md.La := ⟨e.cl, e.op, e.ins, e.er, e.f0, e.f1, e.sz⟩
theorem rdE_md {w : World} {s : Sl} {es : List En} (h : RdE w s es) : Md.RdE w ⟨s.a, s.l, s.k⟩ (es.map cE) := by
  refine ⟨?_, by rw [List.length_map]; exact h.len, h.cap⟩
  have e : (es.map cE).map Md.En.cs = es.map En.cs := by rw [List.map_map]; rfl
  intro i it hi
  rw [e] at hi
  exact h.row i it hi
theorem rdL_md {w : World} {s : Sl} {es : List La} (h : RdL w s es) : Md.RdL w ⟨s.a, s.l, s.k⟩ (es.map cL) := by
  refine ⟨?_, by rw [List.length_map]; exact h.len, h.cap⟩
  have e : (es.map cL).map Md.La.cs = es.map La.cs := by rw [List.map_map]; rfl
  intro i it hi
  rw [e] at hi
  exact h.row i it hi
def dE (e : Md.En) : En := ⟨e.nm, e.f0, e.f1, e.sz⟩
def dL (e : Md.La) : La := ⟨e.cl, e.op, e.ins, e.er, e.f0, e.f1, e.sz⟩
theorem rdE_up {w : World} {s : Md.Sl} {es : List Md.En} (h : Md.RdE w s es) : RdE w (jL s) (es.map dE) := by
  refine ⟨?_, by rw [List.length_map]; exact h.len, h.cap⟩
  have e : (es.map dE).map En.cs = es.map Md.En.cs := by rw [List.map_map]; rfl
  intro i it hi
  rw [e] at hi
  exact h.row i it hi
theorem rdL_up {w : World} {s : Md.Sl} {es : List Md.La} (h : Md.RdL w s es) : RdL w (jL s) (es.map dL) := by
  refine ⟨?_, by rw [List.length_map]; exact h.len, h.cap⟩
  have e : (es.map dL).map La.cs = es.map Md.La.cs := by rw [List.map_map]; rfl
  intro i it hi
  rw [e] at hi
  exact h.row i it hi
/-- What is shown is the same. -/
structure ShowR (w0 : World) (s : PS) (x : Md.Rs) : Prop where
  de : x.de = (decO s).2
  dc : jC x.dc = (decO s).1
  tr : x.tr = (triO s).2.2.2
  wo : x.wo = worO s
  up : x.bk.up = (triO s).1
  bk : Bw w0 x.bk (triO s).2.1 (triO s).2.2.1
  nt : x.nt = s.top
  rd : x.rd = s.rd
theorem bw_zero (w0 : World) : Bw w0 Md.bvZ [] [] := ⟨⟨RowsAt.nil _ _ _, rfl, fun _ => rfl⟩, ⟨RowsAt.nil _ _ _, rfl, fun _ => rfl⟩, by decide, by decide⟩
theorem rel_show {w0 : World} {s : PS} {x : Md.Rs} (h : Rel (Bw w0) s x) : ShowR w0 s x := by
  obtain ⟨h0, hp⟩ := h
  have hz : jC Md.cZ = cZ := rfl
  unfold PhR at hp
  cases e : s.ph with
  | fresh => rw [e] at hp; obtain ⟨_, ⟨a, b, c⟩, d, f, _⟩ := hp; exact ⟨by rw [a]; unfold decO; rw [e], by rw [d, hz]; unfold decO; rw [e], by rw [b]; unfold triO; rw [e], by rw [c]; unfold worO; rw [e], by rw [f]; unfold triO; rw [e]; rfl, by rw [f]; unfold triO; rw [e]; exact bw_zero w0, h0.nt, h0.rd⟩
  | pre X Y rf => rw [e] at hp; obtain ⟨_, ⟨a, b, c⟩, d, f, _⟩ := hp; exact ⟨by rw [a]; unfold decO; rw [e], by rw [d, hz]; unfold decO; rw [e], by rw [b]; unfold triO; rw [e], by rw [c]; unfold worO; rw [e], by rw [f]; unfold triO; rw [e]; rfl, by rw [f]; unfold triO; rw [e]; exact bw_zero w0, h0.nt, h0.rd⟩
  | acc cc X Y rf => rw [e] at hp; obtain ⟨_, ⟨a, b, c⟩, d, f, _⟩ := hp; exact ⟨by rw [a]; unfold decO; rw [e], by rw [d, hz]; unfold decO; rw [e], by rw [b]; unfold triO; rw [e], by rw [c]; unfold worO; rw [e], by rw [f]; unfold triO; rw [e]; rfl, by rw [f]; unfold triO; rw [e]; exact bw_zero w0, h0.nt, h0.rd⟩
  | dec cc => rw [e] at hp; obtain ⟨_, ⟨a, b, c⟩, d, f⟩ := hp; exact ⟨by rw [a]; unfold decO; rw [e], by rw [d]; unfold decO; rw [e], by rw [b]; unfold triO; rw [e], by rw [c]; unfold worO; rw [e], by rw [f]; unfold triO; rw [e]; rfl, by rw [f]; unfold triO; rw [e]; exact bw_zero w0, h0.nt, h0.rd⟩
  | tri u es ls => rw [e] at hp; obtain ⟨_, ⟨a, b, c⟩, d, f, g⟩ := hp; exact ⟨by rw [a]; unfold decO; rw [e], by rw [d, hz]; unfold decO; rw [e], by rw [b]; unfold triO; rw [e], by rw [c]; unfold worO; rw [e], by rw [f]; unfold triO; rw [e], by unfold triO; rw [e]; exact g, h0.nt, h0.rd⟩
  | worn => rw [e] at hp; obtain ⟨_, ⟨a, b, c⟩, d, f⟩ := hp; exact ⟨by rw [a]; unfold decO; rw [e], by rw [d, hz]; unfold decO; rw [e], by rw [b]; unfold triO; rw [e], by rw [c]; unfold worO; rw [e], by rw [f]; unfold triO; rw [e]; rfl, by rw [f]; unfold triO; rw [e]; exact bw_zero w0, h0.nt, h0.rd⟩

end Go.Proofs.Ytpabpeppgpeaoaa
