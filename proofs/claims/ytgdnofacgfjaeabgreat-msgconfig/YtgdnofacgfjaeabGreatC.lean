import Derived.Test.YtgdnofacgfjaeabGreatZ
import Derived.Laws.IdiomStrings
namespace Go.Proofs.YtgdnofacgfjaeabGreat
open Go.RowKit
set_option linter.unusedVariables false

/-- A text of these bytes. -/
def strOf (ys : List Int) : ByteArray := ⟨(ys.map (fun n => UInt8.ofNat n.toNat)).toArray⟩
/-- The bytes of a text. -/
def numsOf (s : ByteArray) : List Int := s.data.toList.map (fun b => (b.toNat : Int))
theorem numsOf_len (s : ByteArray) : (numsOf s).length = s.size := by unfold numsOf; rw [List.length_map, Array.length_toList]; rfl
theorem strOf_size (ys : List Int) : (strOf ys).size = ys.length := by simp [strOf, ByteArray.size]
theorem numsOf_strOf {ys : List Int} (h : U8 ys) : numsOf (strOf ys) = ys := by
  apply List.ext_getElem
  · simp [numsOf, strOf]
  · intro i h1 h2
    have := h i
    rw [List.getElem?_eq_getElem h2] at this
    simp only [Option.getD_some] at this
    simp [numsOf, strOf]
    omega
theorem numsOf_u8 (s : ByteArray) : U8 (numsOf s) := by
  intro i
  by_cases h : i < (numsOf s).length
  · rw [List.getElem?_eq_getElem h]
    simp only [Option.getD_some, numsOf, List.getElem_map]
    have := UInt8.toNat_lt (s.data.toList[i]'(by simpa [numsOf] using h))
    omega
  · rw [List.getElem?_eq_none (by omega)]; simp

theorem run_str {w : World} {xa : Option Addr} {xn xc : Nat} {ys : List Int} (hb : Bytes w xa ys) (h8 : U8 ys) (hlen : ys.length = xn) :
    (convert 30 9 (.slice xa xn xc)).run Tryz.prog w = .ok (.string (strOf ys)) w := by
  subst hlen
  cases xa with
  | none =>
    have : ys = [] := by
      cases ys with
      | nil => rfl
      | cons y r => obtain ⟨b, off, e, _⟩ := hb 0 (by simp); cases e
    subst this
    rw [run_convert_bytes_string w 30 9 5 none _ xc Tryz.underlying30 Tryz.underlying5 Tryz.underlying9]
    rfl
  | some ad =>
    have := run_convert_bytes_back (P := Tryz.prog) w 30 9 5 ad xc (ys.map (fun n => UInt8.ofNat n.toNat)) Tryz.underlying30 Tryz.underlying5 Tryz.underlying9 (fun j hj => by
      simp only [List.length_map] at hj
      obtain ⟨b, off, e, hc⟩ := hb j hj
      cases e
      have := h8 j
      rw [List.getElem?_eq_getElem hj] at this hc
      simp only [Option.getD_some] at this hc
      rw [addr_add, hc]
      simp
      omega)
    rw [List.length_map] at this
    exact this

theorem run_bytes (w : World) (s : ByteArray) :
    ∃ c w', (convert 9 30 (.string s)).run Tryz.prog w = .ok (.slice (some ⟨w.heap.size, 0, none⟩) s.size c) w' ∧ Bytes w' (some ⟨w.heap.size, 0, none⟩) (numsOf s) ∧ Kept No w w' := by
  refine ⟨_, _, run_bytes_of_string w 9 30 5 s Tryz.underlying9 Tryz.underlying30 Tryz.underlying5, ?_, ((Kept.refl _ _).drew).alloc _⟩
  intro i hi
  refine ⟨_, _, rfl, ?_⟩
  rw [Nat.zero_add]
  have := World.cell?_alloc_mark w.drew (bytesRow s (grownCap w s.size 0 5)) 5 ((bytesRow s (grownCap w s.size 0 5)).size, (bytesRow s (grownCap w s.size 0 5)).size + 1) i
  rw [show w.drew.heap.size = w.heap.size from rfl] at this
  rw [this]
  have hi' : i < s.data.size := by simpa [numsOf] using hi
  unfold bytesRow
  rw [Array.getElem?_append_left (by simpa using hi'), List.getElem?_eq_getElem hi]
  rw [Array.getElem?_eq_getElem (by simpa using hi')]
  simp [numsOf]

set_option maxRecDepth 1000000 in
set_option maxHeartbeats 400000 in
theorem text_all (base g : Nat) (a : Option Addr) (c : Nat) (st : Option (List Int)) (s : ByteArray) (w : World) (h : Ws w base g a c st) 
    (hx : s.size ≤ 140737488355328) (hlen : stLen st + 10 + s.size ≤ 140737488355328) (hbase : base ≤ w.heap.size) :
    Calls Tryz.prog 96 #[.pointer (some ⟨g, 0, none⟩), .string s] w (Puts w base g a (putBytes st (numsOf s))) := by
  have HW : Hid (Ws w base g a c st) := h
  obtain ⟨c1, w1, hcv, hb1, hk1⟩ := run_bytes w s
  have HB1 : Hid (Bytes w1 (some ⟨w.heap.size, 0, none⟩) (numsOf s)) := hb1
  have HK1 : Hid (Kept No w w1) := hk1
  clear h hb1 hk1
  go_enter Tryz.func96, Tryz.ntmps96
  go_wp2_with fail
  refine (bytes_all base g a c st _ _ _ (numsOf s) w1 (HW.out.no HK1.out) (numsOf_len s) HB1.out (fun e => by cases e) (fun k hk hk2 => by have := HW.out.lt hk2; obtain ⟨ad, e, rfl⟩ := hk; cases e; simp at this) hx hlen (by have := HK1.out.size; omega)).mono ?_
  rintro e w2 ⟨rfl, a2, c2, hw2, hk2, hm2⟩
  have HF : Hid (∃ a' c', Ws w2 base g a' c' (putBytes st (numsOf s)) ∧ Kept (WrAt g a) w w2 ∧ Moved w a a') :=
    ⟨a2, c2, hw2, HK1.out.of_no.then hk2, (Moved.refl w a).trans hm2 HK1.out.size⟩
  clear hw2 hk2 hm2
  go_wp2
  go_end0
  exact ⟨rfl, HF.out⟩

theorem OwnS.nil0 {w : World} {base : Nat} {a : Option Addr} {cap : Nat} {zs : List Int} (h : OwnS w base a cap zs) (e : a = none) : zs.length = 0 := by
  rcases h.cases with ⟨_, _, h3⟩ | ⟨g, h', _⟩
  · rw [h3]; rfl
  · rw [e] at h'; cases h'

/-- What Done tells. -/
def doneOf : Option (List Int) → List Int × Int
  | some zs => (zs, 0)
  | none => ([], 1)

set_option maxRecDepth 1000000 in
set_option maxHeartbeats 400000 in
theorem Done_all (base g : Nat) (a : Option Addr) (c : Nat) (st : Option (List Int)) (w : World) (h : Ws w base g a c st) (hlen : stLen st ≤ 140737488355328) :
    Calls Tryz.prog 72 #[.pointer (some ⟨g, 0, none⟩)] w fun e w' => ∃ a' n' c', e = .returned (.tuple #[.slice a' n' c', .int .i64 (doneOf st).2]) ∧ n' = (doneOf st).1.length ∧ OwnS w' w.heap.size a' c' (doneOf st).1 ∧ Kept No w w' := by
  cases st with
  | none =>
    have c1 : w.cell? ⟨g, 1, none⟩ = some (.bool true) := by rw [cell_of_row w g 1 _ 128 (0, 0) h.1.cell]; rfl
    clear h
    go_enter Tryz.func72, Tryz.ntmps72
    go_wp2
    go_ret2
    exact ⟨none, 0, 0, rfl, rfl, OwnS.nil _ _, Kept.refl _ _⟩
  | some zs =>
    have HW : Hid (Wr w base g a c zs false) := h
    have c0 : w.cell? ⟨g, 0, none⟩ = some (.slice a zs.length c) := by rw [cell_of_row w g 0 _ 128 (0, 0) HW.out.cell]; rfl
    have c1 : w.cell? ⟨g, 1, none⟩ = some (.bool false) := by rw [cell_of_row w g 1 _ 128 (0, 0) HW.out.cell]; rfl
    clear h
    go_enter Tryz.func72, Tryz.ntmps72
    go_wp2_with fail
    refine (clone_any a zs.length c zs w rfl HW.out.own.bytes (fun e => ⟨HW.out.own.nil0 e, HW.out.own.nilcap e⟩) hlen).mono ?_
    rintro e w2 ⟨a2, c2, rfl, hO, hK, -⟩
    have HO : Hid (OwnS w2 w.heap.size a2 c2 zs) := hO
    have HK : Hid (Kept No w w2) := hK
    clear hO hK
    go_wp2
    go_ret2
    exact ⟨a2, zs.length, c2, rfl, rfl, HO.out, HK.out⟩

end Go.Proofs.YtgdnofacgfjaeabGreat
