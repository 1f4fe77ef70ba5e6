import Derived.Test.YtgdnofacgfjaeaaGreatNp
namespace Go.Proofs.YtgdnofacgfjaeaaGreat.Md
open Go.RowKit
set_option linter.unusedVariables false
set_option linter.unusedSimpArgs false
def BktR (K : Src) (w : World) (st : Wi.RS) (e : Ending) (w' : World) : Prop := ∃ (N M i j : Nat) (a1 : Option Addr) (c1 : Nat) (a3 : Option Addr) (c3 : Nat), Wi.nV (Wi.nS st) = ((N : Nat) : Int) ∧ Wi.nV (ensS i (Wi.nS (Wi.nS st))) = ((M : Nat) : Int) ∧ i ≤ N ∧ j ≤ M ∧ i ≤ 131073 ∧ j ≤ 131073 ∧
  (i < N → ((Wi.errS (ensS i (Wi.nS (Wi.nS st)))).2 == 0) = false) ∧ (j < M → ((Wi.errS (lasS j (Wi.nS (ensS i (Wi.nS (Wi.nS st)))))).2 == 0) = false) ∧
  e = .returned (.agg (Bv.cells ⟨Wi.nV st, ⟨a1, i, c1⟩, ⟨a3, j, c3⟩⟩)) ∧ K.St w' (lasS j (Wi.nS (ensS i (Wi.nS (Wi.nS st)))), false) ∧ Kept K.Wr w w' ∧
  Own 92 4 w' w.heap.size a1 c1 i (enL (ensL i (Wi.nS (Wi.nS st)))) ∧ Own 94 7 w' w.heap.size a3 c3 j (laL (lasL j (Wi.nS (ensS i (Wi.nS (Wi.nS st))))))
theorem enL_one1 (es : List En) (e : En) : enL (es ++ [e]) = enL es ++ En.cs e := by simp [enL]
theorem laL_one1 (es : List La) (e : La) : laL (es ++ [e]) = laL es ++ La.cs e := by simp [laL]
theorem E40_ : Tryz.prog.underlying 40 = some (.slice 92) := by kernel_rfl
theorem E41_ : Tryz.prog.underlying 41 = some (.slice 94) := by kernel_rfl
section
variable {i0 g : Nat} {ba : Option Addr} {bc : Nat} {bs : List Int} {st : Wi.RS} {w : World}
set_option maxRecDepth 100000 in
set_option maxHeartbeats 4000000 in
theorem r_rbkt (h : (inSrc i0 g ba bc bs).St w (st, false)) (hu : uR st) (hr : room st 131072) : Calls Tryz.prog 156 #[.pointer (some ⟨i0, 0, none⟩)] w (BktR (inSrc i0 g ba bc bs) w st) := by
  refine hidC fun C HC => ?_
  have hu1 := (took_n st hu).1
  have hu2 := (took_n (Wi.nS st) hu1).1
  have hr2 : room (Wi.nS (Wi.nS st)) 131072 := fun zs a e => by
    have h1 := (took_len hu (took_n st) hr).1
    have h2 := (took_len hu1 (took_n (Wi.nS st)) h1).1 zs a e
    omega
  have HF : Hid (Kr (inSrc i0 g ba bc bs) w w (st, false) []) := Kr.start h
  clear h
  go_enter Tryz.func156, Tryz.ntmps156
  go_upto_region 0 with fail
  refine WL.start <| rA (Bv.cells bvZ) Z43 HF fun g1 w2 HF => ?_
  try simp only [pS]
  have HF : Hid (Kr (inSrc i0 g ba bc bs) w w2 (st, false) [(g1, 43, Bv.cells bvZ)]) := HF
  refine WL.nil <| ?_
  try simp only [pS]
  go_upto_region 1 with fail
  refine WL.start <| bD (Bv.cells bvZ) <| rA (Bv.cells bvZ) Z43 HF fun g3 w4 HF => ?_
  try simp only [pS]
  have HF : Hid (Kr (inSrc i0 g ba bc bs) w w4 (st, false) [(g1, 43, Bv.cells bvZ), (g3, 43, Bv.cells bvZ)]) := HF
  refine rW (Bv.cs bvZ) (Bv.cs bvZ) HF 1 0 (v := .agg (Bv.cells bvZ)) rfl S43 (Bv.oneL _) (Bv.cs bvZ) rfl fun w5 HF => ?_
  try simp only [pS]
  have HF : Hid (Kr (inSrc i0 g ba bc bs) w w5 (st, false) [(g1, 43, Bv.cells bvZ), (g3, 43, Bv.cells bvZ)]) := HF
  refine WL.nil <| ?_
  try simp only [pS]
  go_upto_region 2 with fail
  refine WL.start <| tK (pg i0 0) <| rC (.int .i64 (Wi.nV st)) ((Wi.nS st, false)) HF (fun h => i_num h) fun w6 HF => ?_
  try simp only [pS]
  have HF : Hid (Kr (inSrc i0 g ba bc bs) w w6 (Wi.nS st, false) [(g1, 43, Bv.cells bvZ), (g3, 43, Bv.cells bvZ)]) := HF
  refine tK (pg g3 0) <| rW (Bv.cs ⟨(Wi.nV st), slZ, slZ⟩) ([.int .i64 (Wi.nV st)]) HF 1 0 (v := .int .i64 (Wi.nV st)) rfl S3 (by simp [Value.oneCell', Sl.v]) (Bv.cs bvZ) rfl fun w7 HF => ?_
  try simp only [pS]
  have HF : Hid (Kr (inSrc i0 g ba bc bs) w w7 (Wi.nS st, false) [(g1, 43, Bv.cells bvZ), (g3, 43, Bv.cells ⟨(Wi.nV st), slZ, slZ⟩)]) := HF
  refine WL.nil <| ?_
  try simp only [pS]
  go_upto_region 3 with fail
  refine WL.start <| tK (pg i0 0) <| ?_
  try simp only [pS]
  obtain ⟨N, hN⟩ : ∃ N : Nat, Wi.nV (Wi.nS st) = ((N : Nat) : Int) := ⟨(Wi.nV (Wi.nS st)).toNat, by have := nV_pos (Wi.nS st); omega⟩
  refine rC (.int .i64 ((N : Nat) : Int)) ((Wi.nS (Wi.nS st), false)) HF (fun h => i_numN hN h) fun w8 HF => ?_
  try simp only [pS]
  have HF : Hid (Kr (inSrc i0 g ba bc bs) w w8 (Wi.nS (Wi.nS st), false) [(g1, 43, Bv.cells bvZ), (g3, 43, Bv.cells ⟨(Wi.nV st), slZ, slZ⟩)]) := HF
  refine tK (.int .i64 ((N : Nat) : Int)) <| WL.nil <| ?_
  try simp only [pS]
  go_upto_region 4 with fail
  refine WL.start <| tK (.int .i64 0) <| WL.nil <| ?_
  try simp only [pS]
  have HF : Hid (Kr (lsSrc (inSrc i0 g ba bc bs) 92 4 w.heap.size none 0 0 []) w w8 (Wi.nS (Wi.nS st), false) [(g1, 43, Bv.cells bvZ), (g3, 43, Bv.cells ⟨(Wi.nV st), slZ, slZ⟩)]) := Kr.ls 92 4 w.heap.size HF.out
  go_wp2
  go_loopw [5] (fun v5 wr => ∃ (i : Nat) (a1 : Option Addr) (c1 : Nat), v5 = .int .i64 ((i : Nat) : Int) ∧ i ≤ N ∧ i ≤ 131073 ∧ Hid (Kr (lsSrc (inSrc i0 g ba bc bs) 92 4 w.heap.size a1 i c1 (enL (ensL i (Wi.nS (Wi.nS st))))) w wr (ensS i (Wi.nS (Wi.nS st)), false) [(g1, 43, Bv.cells bvZ), (g3, 43, Bv.cells (⟨(Wi.nV st), ⟨a1, i, c1⟩, slZ⟩))])) (fun v5 _ => N - (intOf v5).toNat)
  case atStart => exact ⟨0, none, 0, by go_num, by omega, by omega, HF⟩
  case round =>
    clear HF
    obtain ⟨i, a1, c1, rfl, hii, hzi, HF⟩ := hrel
    by_cases hlti : i < N
    ·skip
     go_upto_region 5 with fail
     refine WL.start <| tK (.int .i64 ((i : Nat) : Int)) <| tK (.int .i64 ((N : Nat) : Int)) <| bN (lI (a := ((i : Nat) : Int)) (b := ((N : Nat) : Int)) (decide_eq_true (by omega))) <| tK (.bool true) <| tK (pg i0 0) <| tK (pg i0 0) <| tK (pg i0 0) <| lR (load_one (Src.pt _ HF.out.st) U170 rfl) <| tK (pg g 0) <| tK (pg g 2) <| lR (load_one (inErr HF.out.st.1) U3 rfl) <| ?_
     try simp only [pS]
     cases q1 : (((Wi.errS (ensS i (Wi.nS (Wi.nS st)))).2) == 0)
     rotate_left
     ·skip
      have hbd : i ≤ 131072 := by
        obtain ⟨zs0, a0, e0⟩ := err_ok (ens_u hu2 i) q1
        exact (ens_room hu2 hr2 i).2 zs0 a0 e0
      refine bN (eI q1) <| tK (.bool true) <| WL.nil <| ?_
      try simp only [pS]
      go_upto_region 7 with fail
      refine WL.start <| bD (En.cells enZ) <| rA (En.cells enZ) Z92 HF fun g29 w30 HF => ?_
      try simp only [pS]
      have HF : Hid (Kr (lsSrc (inSrc i0 g ba bc bs) 92 4 w.heap.size a1 i c1 (enL (ensL i (Wi.nS (Wi.nS st))))) w w30 (ensS i (Wi.nS (Wi.nS st)), false) [(g1, 43, Bv.cells bvZ), (g3, 43, Bv.cells (⟨(Wi.nV st), ⟨a1, i, c1⟩, slZ⟩)), (g29, 92, En.cells enZ)]) := HF
      refine rW (En.cs enZ) (En.cs enZ) HF 2 0 (v := .agg (En.cells enZ)) rfl S92 (En.oneL _) (En.cs enZ) rfl fun w31 HF => ?_
      try simp only [pS]
      have HF : Hid (Kr (lsSrc (inSrc i0 g ba bc bs) 92 4 w.heap.size a1 i c1 (enL (ensL i (Wi.nS (Wi.nS st))))) w w31 (ensS i (Wi.nS (Wi.nS st)), false) [(g1, 43, Bv.cells bvZ), (g3, 43, Bv.cells (⟨(Wi.nV st), ⟨a1, i, c1⟩, slZ⟩)), (g29, 92, En.cells enZ)]) := HF
      refine WL.nil <| ?_
      try simp only [pS]
      go_upto_region 8 with fail
      refine WL.start <| tK (pg i0 0) <| rY (tV (ensS i (Wi.nS (Wi.nS st)))) ((tS (ensS i (Wi.nS (Wi.nS st))), false)) HF (fun h => lsGotB h (fun h => r_bytesI h)) fun x33 w32 HF HX34 => ?_
      try simp only [pS]
      have HF : Hid (Kr (lsSrc (inSrc i0 g ba bc bs) 92 4 w.heap.size a1 i c1 (enL (ensL i (Wi.nS (Wi.nS st))))) w w32 (tS (ensS i (Wi.nS (Wi.nS st))), false) [(g1, 43, Bv.cells bvZ), (g3, 43, Bv.cells (⟨(Wi.nV st), ⟨a1, i, c1⟩, slZ⟩)), (g29, 92, En.cells enZ)]) := HF
      refine rZ HX34 <| tK (pg g29 0) <| rW (En.cs ⟨(Wi.strOf (tV (ensS i (Wi.nS (Wi.nS st))))), 0, 0, 0⟩) ([.string (Wi.strOf (tV (ensS i (Wi.nS (Wi.nS st)))))]) HF 2 0 (v := .string (Wi.strOf (tV (ensS i (Wi.nS (Wi.nS st)))))) rfl S9 (by simp [Value.oneCell', Sl.v]) (En.cs enZ) rfl fun w35 HF => ?_
      try simp only [pS]
      have HF : Hid (Kr (lsSrc (inSrc i0 g ba bc bs) 92 4 w.heap.size a1 i c1 (enL (ensL i (Wi.nS (Wi.nS st))))) w w35 (tS (ensS i (Wi.nS (Wi.nS st))), false) [(g1, 43, Bv.cells bvZ), (g3, 43, Bv.cells (⟨(Wi.nV st), ⟨a1, i, c1⟩, slZ⟩)), (g29, 92, En.cells ⟨(Wi.strOf (tV (ensS i (Wi.nS (Wi.nS st))))), 0, 0, 0⟩)]) := HF
      refine WL.nil <| ?_
      try simp only [pS]
      go_upto_region 9 with fail
      refine WL.start <| tK (pg i0 0) <| rC (.agg (Fi.cells (fiV (tS (ensS i (Wi.nS (Wi.nS st))))))) ((Wi.aS (tS (ensS i (Wi.nS (Wi.nS st)))), false)) HF (fun h => lsGot h (fun h => r_rfile h)) fun w36 HF => ?_
      try simp only [pS]
      have HF : Hid (Kr (lsSrc (inSrc i0 g ba bc bs) 92 4 w.heap.size a1 i c1 (enL (ensL i (Wi.nS (Wi.nS st))))) w w36 (Wi.aS (tS (ensS i (Wi.nS (Wi.nS st)))), false) [(g1, 43, Bv.cells bvZ), (g3, 43, Bv.cells (⟨(Wi.nV st), ⟨a1, i, c1⟩, slZ⟩)), (g29, 92, En.cells ⟨(Wi.strOf (tV (ensS i (Wi.nS (Wi.nS st))))), 0, 0, 0⟩)]) := HF
      refine tK (pg g29 1) <| rW (En.cs ⟨(Wi.strOf (tV (ensS i (Wi.nS (Wi.nS st))))), ((fiV (tS (ensS i (Wi.nS (Wi.nS st))))).c), ((fiV (tS (ensS i (Wi.nS (Wi.nS st))))).o), 0⟩) (Fi.cs (fiV (tS (ensS i (Wi.nS (Wi.nS st)))))) HF 2 1 (v := .agg (Fi.cells (fiV (tS (ensS i (Wi.nS (Wi.nS st))))))) rfl S37 (Fi.oneL _) (En.cs ⟨(Wi.strOf (tV (ensS i (Wi.nS (Wi.nS st))))), 0, 0, 0⟩) rfl fun w37 HF => ?_
      try simp only [pS]
      have HF : Hid (Kr (lsSrc (inSrc i0 g ba bc bs) 92 4 w.heap.size a1 i c1 (enL (ensL i (Wi.nS (Wi.nS st))))) w w37 (Wi.aS (tS (ensS i (Wi.nS (Wi.nS st)))), false) [(g1, 43, Bv.cells bvZ), (g3, 43, Bv.cells (⟨(Wi.nV st), ⟨a1, i, c1⟩, slZ⟩)), (g29, 92, En.cells ⟨(Wi.strOf (tV (ensS i (Wi.nS (Wi.nS st))))), ((fiV (tS (ensS i (Wi.nS (Wi.nS st))))).c), ((fiV (tS (ensS i (Wi.nS (Wi.nS st))))).o), 0⟩)]) := HF
      refine WL.nil <| ?_
      try simp only [pS]
      go_upto_region 10 with fail
      refine WL.start <| tK (pg i0 0) <| rC (.int .i64 (Wi.nV (Wi.aS (tS (ensS i (Wi.nS (Wi.nS st))))))) ((Wi.nS (Wi.aS (tS (ensS i (Wi.nS (Wi.nS st))))), false)) HF (fun h => lsGot h (fun h => i_num h)) fun w38 HF => ?_
      try simp only [pS]
      have HF : Hid (Kr (lsSrc (inSrc i0 g ba bc bs) 92 4 w.heap.size a1 i c1 (enL (ensL i (Wi.nS (Wi.nS st))))) w w38 (Wi.nS (Wi.aS (tS (ensS i (Wi.nS (Wi.nS st))))), false) [(g1, 43, Bv.cells bvZ), (g3, 43, Bv.cells (⟨(Wi.nV st), ⟨a1, i, c1⟩, slZ⟩)), (g29, 92, En.cells ⟨(Wi.strOf (tV (ensS i (Wi.nS (Wi.nS st))))), ((fiV (tS (ensS i (Wi.nS (Wi.nS st))))).c), ((fiV (tS (ensS i (Wi.nS (Wi.nS st))))).o), 0⟩)]) := HF
      refine tK (pg g29 3) <| rW (En.cs ⟨(Wi.strOf (tV (ensS i (Wi.nS (Wi.nS st))))), ((fiV (tS (ensS i (Wi.nS (Wi.nS st))))).c), ((fiV (tS (ensS i (Wi.nS (Wi.nS st))))).o), (Wi.nV (Wi.aS (tS (ensS i (Wi.nS (Wi.nS st))))))⟩) ([.int .i64 (Wi.nV (Wi.aS (tS (ensS i (Wi.nS (Wi.nS st))))))]) HF 2 3 (v := .int .i64 (Wi.nV (Wi.aS (tS (ensS i (Wi.nS (Wi.nS st))))))) rfl S3 (by simp [Value.oneCell', Sl.v]) (En.cs ⟨(Wi.strOf (tV (ensS i (Wi.nS (Wi.nS st))))), ((fiV (tS (ensS i (Wi.nS (Wi.nS st))))).c), ((fiV (tS (ensS i (Wi.nS (Wi.nS st))))).o), 0⟩) rfl fun w39 HF => ?_
      try simp only [pS]
      have HF : Hid (Kr (lsSrc (inSrc i0 g ba bc bs) 92 4 w.heap.size a1 i c1 (enL (ensL i (Wi.nS (Wi.nS st))))) w w39 (Wi.nS (Wi.aS (tS (ensS i (Wi.nS (Wi.nS st))))), false) [(g1, 43, Bv.cells bvZ), (g3, 43, Bv.cells (⟨(Wi.nV st), ⟨a1, i, c1⟩, slZ⟩)), (g29, 92, En.cells ⟨(Wi.strOf (tV (ensS i (Wi.nS (Wi.nS st))))), ((fiV (tS (ensS i (Wi.nS (Wi.nS st))))).c), ((fiV (tS (ensS i (Wi.nS (Wi.nS st))))).o), (Wi.nV (Wi.aS (tS (ensS i (Wi.nS (Wi.nS st))))))⟩)]) := HF
      refine WL.nil <| ?_
      try simp only [pS]
      go_upto_region 11 with fail
      refine WL.start <| tK (pg g3 1) <| rD (.slice a1 i c1) HF 1 1 U40 rfl <| rP (En.cs ⟨(Wi.strOf (tV (ensS i (Wi.nS (Wi.nS st))))), ((fiV (tS (ensS i (Wi.nS (Wi.nS st))))).c), ((fiV (tS (ensS i (Wi.nS (Wi.nS st))))).o), (Wi.nV (Wi.aS (tS (ensS i (Wi.nS (Wi.nS st))))))⟩) HF 2 0 U92 S92 (En.cs ⟨(Wi.strOf (tV (ensS i (Wi.nS (Wi.nS st))))), ((fiV (tS (ensS i (Wi.nS (Wi.nS st))))).c), ((fiV (tS (ensS i (Wi.nS (Wi.nS st))))).o), (Wi.nV (Wi.aS (tS (ensS i (Wi.nS (Wi.nS st))))))⟩) rfl <| rAp (news := En.cs ⟨(Wi.strOf (tV (ensS i (Wi.nS (Wi.nS st))))), ((fiV (tS (ensS i (Wi.nS (Wi.nS st))))).c), ((fiV (tS (ensS i (Wi.nS (Wi.nS st))))).o), (Wi.nV (Wi.aS (tS (ensS i (Wi.nS (Wi.nS st))))))⟩) HF E40_ I92 rfl (by omega) rfl (En.oneL _) (by omega) (by omega) fun a2 c2 w40 HF => ?_
      try simp only [pS]
      have HF : Hid (Kr (lsSrc (inSrc i0 g ba bc bs) 92 4 w.heap.size a2 (i + 1) c2 (enL (ensL i (Wi.nS (Wi.nS st))) ++ En.cs ⟨(Wi.strOf (tV (ensS i (Wi.nS (Wi.nS st))))), ((fiV (tS (ensS i (Wi.nS (Wi.nS st))))).c), ((fiV (tS (ensS i (Wi.nS (Wi.nS st))))).o), (Wi.nV (Wi.aS (tS (ensS i (Wi.nS (Wi.nS st))))))⟩)) w w40 (Wi.nS (Wi.aS (tS (ensS i (Wi.nS (Wi.nS st))))), false) [(g1, 43, Bv.cells bvZ), (g3, 43, Bv.cells (⟨(Wi.nV st), ⟨a1, i, c1⟩, slZ⟩)), (g29, 92, En.cells ⟨(Wi.strOf (tV (ensS i (Wi.nS (Wi.nS st))))), ((fiV (tS (ensS i (Wi.nS (Wi.nS st))))).c), ((fiV (tS (ensS i (Wi.nS (Wi.nS st))))).o), (Wi.nV (Wi.aS (tS (ensS i (Wi.nS (Wi.nS st))))))⟩)]) := HF
      refine tK (pg g3 1) <| rW (Bv.cs (⟨(Wi.nV st), ⟨a2, (i + 1), c2⟩, slZ⟩)) ([.slice a2 (i + 1) c2]) HF 1 1 (v := .slice a2 (i + 1) c2) rfl S40 (by simp [Value.oneCell', Sl.v]) (Bv.cs (⟨(Wi.nV st), ⟨a1, i, c1⟩, slZ⟩)) rfl fun w41 HF => ?_
      try simp only [pS]
      have HF : Hid (Kr (lsSrc (inSrc i0 g ba bc bs) 92 4 w.heap.size a2 (i + 1) c2 (enL (ensL i (Wi.nS (Wi.nS st))) ++ En.cs ⟨(Wi.strOf (tV (ensS i (Wi.nS (Wi.nS st))))), ((fiV (tS (ensS i (Wi.nS (Wi.nS st))))).c), ((fiV (tS (ensS i (Wi.nS (Wi.nS st))))).o), (Wi.nV (Wi.aS (tS (ensS i (Wi.nS (Wi.nS st))))))⟩)) w w41 (Wi.nS (Wi.aS (tS (ensS i (Wi.nS (Wi.nS st))))), false) [(g1, 43, Bv.cells bvZ), (g3, 43, Bv.cells (⟨(Wi.nV st), ⟨a2, (i + 1), c2⟩, slZ⟩)), (g29, 92, En.cells ⟨(Wi.strOf (tV (ensS i (Wi.nS (Wi.nS st))))), ((fiV (tS (ensS i (Wi.nS (Wi.nS st))))).c), ((fiV (tS (ensS i (Wi.nS (Wi.nS st))))).o), (Wi.nV (Wi.aS (tS (ensS i (Wi.nS (Wi.nS st))))))⟩)]) := HF
      refine WL.nil <| ?_
      try simp only [pS]
      go_upto_region 6 with fail
      refine WL.start <| tK (.int .i64 ((i : Nat) : Int)) <| bN (v := .int .i64 (((i + 1) : Nat) : Int)) (b_addw ((i : Nat) : Int) 1 (((i + 1) : Nat) : Int) (by rw [IntKind.wrap_i64]; omega)) <| tK (.int .i64 (((i + 1) : Nat) : Int)) <| WL.nil <| ?_
      try simp only [pS]
      go_wp2
      go_roundw
      case rel => exact ⟨i + 1, a2, c2, by go_num, by omega, by omega, (by rw [ensL_succ, enL_one1]; exact Kr.front (l := [(g1, 43, Bv.cells bvZ), (g3, 43, Bv.cells (⟨(Wi.nV st), ⟨a2, (i + 1), c2⟩, slZ⟩))]) (m := [(g29, 92, En.cells ⟨(Wi.strOf (tV (ensS i (Wi.nS (Wi.nS st))))), ((fiV (tS (ensS i (Wi.nS (Wi.nS st))))).c), ((fiV (tS (ensS i (Wi.nS (Wi.nS st))))).o), (Wi.nV (Wi.aS (tS (ensS i (Wi.nS (Wi.nS st))))))⟩)]) HF)⟩
      case measure => simp [intOf]; omega
     refine bN (eI q1) <| tK (.bool false) <| WL.nil <| ?_
     try simp only [pS]
     go_upto_region 12 with fail
     refine WL.start <| tK (pg i0 0) <| ?_
     try simp only [pS]
     obtain ⟨M, hM⟩ : ∃ M : Nat, Wi.nV (ensS i (Wi.nS (Wi.nS st))) = ((M : Nat) : Int) := ⟨(Wi.nV (ensS i (Wi.nS (Wi.nS st)))).toNat, by have := nV_pos (ensS i (Wi.nS (Wi.nS st))); omega⟩
     refine rC (.int .i64 ((M : Nat) : Int)) ((Wi.nS (ensS i (Wi.nS (Wi.nS st))), false)) HF (fun h => lsGot h (fun h => i_numN hM h)) fun w9 HF => ?_
     try simp only [pS]
     have HF : Hid (Kr (lsSrc (inSrc i0 g ba bc bs) 92 4 w.heap.size a1 i c1 (enL (ensL i (Wi.nS (Wi.nS st))))) w w9 (Wi.nS (ensS i (Wi.nS (Wi.nS st))), false) [(g1, 43, Bv.cells bvZ), (g3, 43, Bv.cells (⟨(Wi.nV st), ⟨a1, i, c1⟩, slZ⟩))]) := HF
     refine tK (.int .i64 ((M : Nat) : Int)) <| WL.nil <| ?_
     try simp only [pS]
     go_upto_region 13 with fail
     refine WL.start <| tK (.int .i64 0) <| WL.nil <| ?_
     try simp only [pS]
     have hu3 : uR (Wi.nS (ensS i (Wi.nS (Wi.nS st)))) := (took_n _ (ens_u hu2 i)).1
     have hr3 : room (Wi.nS (ensS i (Wi.nS (Wi.nS st)))) 131072 := fun zs a e => by
       have := (took_len (ens_u hu2 i) (took_n _) (ens_room hu2 hr2 i).1).1 zs a e
       omega
     have HF : Hid (Kr (lsSrc (lsSrc (inSrc i0 g ba bc bs) 92 4 w.heap.size a1 i c1 (enL (ensL i (Wi.nS (Wi.nS st))))) 94 7 w.heap.size none 0 0 []) w w9 (Wi.nS (ensS i (Wi.nS (Wi.nS st))), false) [(g1, 43, Bv.cells bvZ), (g3, 43, Bv.cells (⟨(Wi.nV st), ⟨a1, i, c1⟩, slZ⟩))]) := Kr.ls 94 7 w.heap.size HF.out
     go_wp2
     go_loopw [7] (fun v7 wr => ∃ (j : Nat) (a3 : Option Addr) (c3 : Nat), v7 = .int .i64 ((j : Nat) : Int) ∧ j ≤ M ∧ j ≤ 131073 ∧ Hid (Kr (lsSrc (lsSrc (inSrc i0 g ba bc bs) 92 4 w.heap.size a1 i c1 (enL (ensL i (Wi.nS (Wi.nS st))))) 94 7 w.heap.size a3 j c3 (laL (lasL j (Wi.nS (ensS i (Wi.nS (Wi.nS st))))))) w wr (lasS j (Wi.nS (ensS i (Wi.nS (Wi.nS st)))), false) [(g1, 43, Bv.cells bvZ), (g3, 43, Bv.cells (⟨(Wi.nV st), ⟨a1, i, c1⟩, ⟨a3, j, c3⟩⟩))])) (fun v7 _ => M - (intOf v7).toNat)
     case atStart => exact ⟨0, none, 0, by go_num, by omega, by omega, HF⟩
     case round =>
       clear HF
       obtain ⟨j, a3, c3, rfl, hij, hzj, HF⟩ := hrel
       rename World => wq
       by_cases hltj : j < M
       ·skip
        go_upto_region 14 with fail
        refine WL.start <| tK (.int .i64 ((j : Nat) : Int)) <| tK (.int .i64 ((M : Nat) : Int)) <| bN (lI (a := ((j : Nat) : Int)) (b := ((M : Nat) : Int)) (decide_eq_true (by omega))) <| tK (.bool true) <| tK (pg i0 0) <| tK (pg i0 0) <| tK (pg i0 0) <| lR (load_one (Src.pt _ HF.out.st) U170 rfl) <| tK (pg g 0) <| tK (pg g 2) <| lR (load_one (inErr HF.out.st.1.1) U3 rfl) <| ?_
        try simp only [pS]
        cases q2 : (((Wi.errS (lasS j (Wi.nS (ensS i (Wi.nS (Wi.nS st)))))).2) == 0)
        ·skip
         refine bN (eI q2) <| tK (.bool false) <| WL.nil <| ?_
         try simp only [pS]
         go_upto_region 24 with fail
         refine WL.start <| rP (Bv.cs (⟨(Wi.nV st), ⟨a1, i, c1⟩, ⟨a3, j, c3⟩⟩)) HF 1 0 U43 S43 (Bv.cs (⟨(Wi.nV st), ⟨a1, i, c1⟩, ⟨a3, j, c3⟩⟩)) rfl <| rW (Bv.cs (⟨(Wi.nV st), ⟨a1, i, c1⟩, ⟨a3, j, c3⟩⟩)) (Bv.cs (⟨(Wi.nV st), ⟨a1, i, c1⟩, ⟨a3, j, c3⟩⟩)) HF 0 0 (v := .agg (Bv.cells (⟨(Wi.nV st), ⟨a1, i, c1⟩, ⟨a3, j, c3⟩⟩))) rfl S43 (Bv.oneL _) (Bv.cs bvZ) rfl fun w10 HF => ?_
         try simp only [pS]
         have HF : Hid (Kr (lsSrc (lsSrc (inSrc i0 g ba bc bs) 92 4 w.heap.size a1 i c1 (enL (ensL i (Wi.nS (Wi.nS st))))) 94 7 w.heap.size a3 j c3 (laL (lasL j (Wi.nS (ensS i (Wi.nS (Wi.nS st))))))) w w10 (lasS j (Wi.nS (ensS i (Wi.nS (Wi.nS st)))), false) [(g1, 43, Bv.cells (⟨(Wi.nV st), ⟨a1, i, c1⟩, ⟨a3, j, c3⟩⟩)), (g3, 43, Bv.cells (⟨(Wi.nV st), ⟨a1, i, c1⟩, ⟨a3, j, c3⟩⟩))]) := HF
         refine WL.nil <| ?_
         try simp only [pS]
         go_wp2
         rw [HC.out]
         refine bodyPost_ret (results_row1 (by rfl) _ _ g1 (Bv.cells (⟨(Wi.nV st), ⟨a1, i, c1⟩, ⟨a3, j, c3⟩⟩)) (by rfl) (run_load_part (cs := Bv.cs (⟨(Wi.nV st), ⟨a1, i, c1⟩, ⟨a3, j, c3⟩⟩)) (sub := Bv.cs (⟨(Wi.nV st), ⟨a1, i, c1⟩, ⟨a3, j, c3⟩⟩)) (HF.out.fq.box 0 _ _ _ rfl) (Part.all _) U43 rfl S43)) rfl ?_
         exact ⟨N, M, i, j, a1, c1, a3, c3, hN, hM, hii, hij, hzi, hzj, fun h => q1, fun h => q2, rfl, HF.out.st.1.1, HF.out.fq.kept, HF.out.st.1.2.1, HF.out.st.2.1⟩
        have hbd : j ≤ 131072 := by
          obtain ⟨zs0, a0, e0⟩ := err_ok (las_u hu3 j) q2
          exact (las_room hu3 hr3 j).2 zs0 a0 e0
        refine bN (eI q2) <| tK (.bool true) <| WL.nil <| ?_
        try simp only [pS]
        go_upto_region 16 with fail
        refine WL.start <| bD (La.cells laZ) <| rA (La.cells laZ) Z94 HF fun g11 w12 HF => ?_
        try simp only [pS]
        have HF : Hid (Kr (lsSrc (lsSrc (inSrc i0 g ba bc bs) 92 4 w.heap.size a1 i c1 (enL (ensL i (Wi.nS (Wi.nS st))))) 94 7 w.heap.size a3 j c3 (laL (lasL j (Wi.nS (ensS i (Wi.nS (Wi.nS st))))))) w w12 (lasS j (Wi.nS (ensS i (Wi.nS (Wi.nS st)))), false) [(g1, 43, Bv.cells bvZ), (g3, 43, Bv.cells (⟨(Wi.nV st), ⟨a1, i, c1⟩, ⟨a3, j, c3⟩⟩)), (g11, 94, La.cells laZ)]) := HF
        refine rW (La.cs laZ) (La.cs laZ) HF 2 0 (v := .agg (La.cells laZ)) rfl S94 (La.oneL _) (La.cs laZ) rfl fun w13 HF => ?_
        try simp only [pS]
        have HF : Hid (Kr (lsSrc (lsSrc (inSrc i0 g ba bc bs) 92 4 w.heap.size a1 i c1 (enL (ensL i (Wi.nS (Wi.nS st))))) 94 7 w.heap.size a3 j c3 (laL (lasL j (Wi.nS (ensS i (Wi.nS (Wi.nS st))))))) w w13 (lasS j (Wi.nS (ensS i (Wi.nS (Wi.nS st)))), false) [(g1, 43, Bv.cells bvZ), (g3, 43, Bv.cells (⟨(Wi.nV st), ⟨a1, i, c1⟩, ⟨a3, j, c3⟩⟩)), (g11, 94, La.cells laZ)]) := HF
        refine WL.nil <| ?_
        try simp only [pS]
        go_upto_region 17 with fail
        refine WL.start <| tK (pg i0 0) <| rC (.int .i64 (Wi.nV (lasS j (Wi.nS (ensS i (Wi.nS (Wi.nS st))))))) ((Wi.nS (lasS j (Wi.nS (ensS i (Wi.nS (Wi.nS st))))), false)) HF (fun h => lsGot h (fun h => lsGot h (fun h => i_num h))) fun w14 HF => ?_
        try simp only [pS]
        have HF : Hid (Kr (lsSrc (lsSrc (inSrc i0 g ba bc bs) 92 4 w.heap.size a1 i c1 (enL (ensL i (Wi.nS (Wi.nS st))))) 94 7 w.heap.size a3 j c3 (laL (lasL j (Wi.nS (ensS i (Wi.nS (Wi.nS st))))))) w w14 (Wi.nS (lasS j (Wi.nS (ensS i (Wi.nS (Wi.nS st))))), false) [(g1, 43, Bv.cells bvZ), (g3, 43, Bv.cells (⟨(Wi.nV st), ⟨a1, i, c1⟩, ⟨a3, j, c3⟩⟩)), (g11, 94, La.cells laZ)]) := HF
        refine tK (pg g11 0) <| rW (La.cs ⟨(Wi.nV (lasS j (Wi.nS (ensS i (Wi.nS (Wi.nS st)))))), 0, 0, 0, 0, 0, 0⟩) ([.int .i64 (Wi.nV (lasS j (Wi.nS (ensS i (Wi.nS (Wi.nS st))))))]) HF 2 0 (v := .int .i64 (Wi.nV (lasS j (Wi.nS (ensS i (Wi.nS (Wi.nS st))))))) rfl S3 (by simp [Value.oneCell', Sl.v]) (La.cs laZ) rfl fun w15 HF => ?_
        try simp only [pS]
        have HF : Hid (Kr (lsSrc (lsSrc (inSrc i0 g ba bc bs) 92 4 w.heap.size a1 i c1 (enL (ensL i (Wi.nS (Wi.nS st))))) 94 7 w.heap.size a3 j c3 (laL (lasL j (Wi.nS (ensS i (Wi.nS (Wi.nS st))))))) w w15 (Wi.nS (lasS j (Wi.nS (ensS i (Wi.nS (Wi.nS st))))), false) [(g1, 43, Bv.cells bvZ), (g3, 43, Bv.cells (⟨(Wi.nV st), ⟨a1, i, c1⟩, ⟨a3, j, c3⟩⟩)), (g11, 94, La.cells ⟨(Wi.nV (lasS j (Wi.nS (ensS i (Wi.nS (Wi.nS st)))))), 0, 0, 0, 0, 0, 0⟩)]) := HF
        refine WL.nil <| ?_
        try simp only [pS]
        go_upto_region 18 with fail
        refine WL.start <| tK (pg i0 0) <| rC (.int .i64 (Wi.nV (Wi.nS (lasS j (Wi.nS (ensS i (Wi.nS (Wi.nS st)))))))) ((Wi.nS (Wi.nS (lasS j (Wi.nS (ensS i (Wi.nS (Wi.nS st)))))), false)) HF (fun h => lsGot h (fun h => lsGot h (fun h => i_num h))) fun w16 HF => ?_
        try simp only [pS]
        have HF : Hid (Kr (lsSrc (lsSrc (inSrc i0 g ba bc bs) 92 4 w.heap.size a1 i c1 (enL (ensL i (Wi.nS (Wi.nS st))))) 94 7 w.heap.size a3 j c3 (laL (lasL j (Wi.nS (ensS i (Wi.nS (Wi.nS st))))))) w w16 (Wi.nS (Wi.nS (lasS j (Wi.nS (ensS i (Wi.nS (Wi.nS st)))))), false) [(g1, 43, Bv.cells bvZ), (g3, 43, Bv.cells (⟨(Wi.nV st), ⟨a1, i, c1⟩, ⟨a3, j, c3⟩⟩)), (g11, 94, La.cells ⟨(Wi.nV (lasS j (Wi.nS (ensS i (Wi.nS (Wi.nS st)))))), 0, 0, 0, 0, 0, 0⟩)]) := HF
        refine tK (pg g11 1) <| rW (La.cs ⟨(Wi.nV (lasS j (Wi.nS (ensS i (Wi.nS (Wi.nS st)))))), (Wi.nV (Wi.nS (lasS j (Wi.nS (ensS i (Wi.nS (Wi.nS st))))))), 0, 0, 0, 0, 0⟩) ([.int .i64 (Wi.nV (Wi.nS (lasS j (Wi.nS (ensS i (Wi.nS (Wi.nS st)))))))]) HF 2 1 (v := .int .i64 (Wi.nV (Wi.nS (lasS j (Wi.nS (ensS i (Wi.nS (Wi.nS st)))))))) rfl S3 (by simp [Value.oneCell', Sl.v]) (La.cs ⟨(Wi.nV (lasS j (Wi.nS (ensS i (Wi.nS (Wi.nS st)))))), 0, 0, 0, 0, 0, 0⟩) rfl fun w17 HF => ?_
        try simp only [pS]
        have HF : Hid (Kr (lsSrc (lsSrc (inSrc i0 g ba bc bs) 92 4 w.heap.size a1 i c1 (enL (ensL i (Wi.nS (Wi.nS st))))) 94 7 w.heap.size a3 j c3 (laL (lasL j (Wi.nS (ensS i (Wi.nS (Wi.nS st))))))) w w17 (Wi.nS (Wi.nS (lasS j (Wi.nS (ensS i (Wi.nS (Wi.nS st)))))), false) [(g1, 43, Bv.cells bvZ), (g3, 43, Bv.cells (⟨(Wi.nV st), ⟨a1, i, c1⟩, ⟨a3, j, c3⟩⟩)), (g11, 94, La.cells ⟨(Wi.nV (lasS j (Wi.nS (ensS i (Wi.nS (Wi.nS st)))))), (Wi.nV (Wi.nS (lasS j (Wi.nS (ensS i (Wi.nS (Wi.nS st))))))), 0, 0, 0, 0, 0⟩)]) := HF
        refine WL.nil <| ?_
        try simp only [pS]
        go_upto_region 19 with fail
        refine WL.start <| tK (pg i0 0) <| rC (.int .i64 (Wi.nV (Wi.nS (Wi.nS (lasS j (Wi.nS (ensS i (Wi.nS (Wi.nS st))))))))) ((Wi.nS (Wi.nS (Wi.nS (lasS j (Wi.nS (ensS i (Wi.nS (Wi.nS st))))))), false)) HF (fun h => lsGot h (fun h => lsGot h (fun h => i_num h))) fun w18 HF => ?_
        try simp only [pS]
        have HF : Hid (Kr (lsSrc (lsSrc (inSrc i0 g ba bc bs) 92 4 w.heap.size a1 i c1 (enL (ensL i (Wi.nS (Wi.nS st))))) 94 7 w.heap.size a3 j c3 (laL (lasL j (Wi.nS (ensS i (Wi.nS (Wi.nS st))))))) w w18 (Wi.nS (Wi.nS (Wi.nS (lasS j (Wi.nS (ensS i (Wi.nS (Wi.nS st))))))), false) [(g1, 43, Bv.cells bvZ), (g3, 43, Bv.cells (⟨(Wi.nV st), ⟨a1, i, c1⟩, ⟨a3, j, c3⟩⟩)), (g11, 94, La.cells ⟨(Wi.nV (lasS j (Wi.nS (ensS i (Wi.nS (Wi.nS st)))))), (Wi.nV (Wi.nS (lasS j (Wi.nS (ensS i (Wi.nS (Wi.nS st))))))), 0, 0, 0, 0, 0⟩)]) := HF
        refine tK (pg g11 2) <| rW (La.cs ⟨(Wi.nV (lasS j (Wi.nS (ensS i (Wi.nS (Wi.nS st)))))), (Wi.nV (Wi.nS (lasS j (Wi.nS (ensS i (Wi.nS (Wi.nS st))))))), (Wi.nV (Wi.nS (Wi.nS (lasS j (Wi.nS (ensS i (Wi.nS (Wi.nS st)))))))), 0, 0, 0, 0⟩) ([.int .i64 (Wi.nV (Wi.nS (Wi.nS (lasS j (Wi.nS (ensS i (Wi.nS (Wi.nS st))))))))]) HF 2 2 (v := .int .i64 (Wi.nV (Wi.nS (Wi.nS (lasS j (Wi.nS (ensS i (Wi.nS (Wi.nS st))))))))) rfl S3 (by simp [Value.oneCell', Sl.v]) (La.cs ⟨(Wi.nV (lasS j (Wi.nS (ensS i (Wi.nS (Wi.nS st)))))), (Wi.nV (Wi.nS (lasS j (Wi.nS (ensS i (Wi.nS (Wi.nS st))))))), 0, 0, 0, 0, 0⟩) rfl fun w19 HF => ?_
        try simp only [pS]
        have HF : Hid (Kr (lsSrc (lsSrc (inSrc i0 g ba bc bs) 92 4 w.heap.size a1 i c1 (enL (ensL i (Wi.nS (Wi.nS st))))) 94 7 w.heap.size a3 j c3 (laL (lasL j (Wi.nS (ensS i (Wi.nS (Wi.nS st))))))) w w19 (Wi.nS (Wi.nS (Wi.nS (lasS j (Wi.nS (ensS i (Wi.nS (Wi.nS st))))))), false) [(g1, 43, Bv.cells bvZ), (g3, 43, Bv.cells (⟨(Wi.nV st), ⟨a1, i, c1⟩, ⟨a3, j, c3⟩⟩)), (g11, 94, La.cells ⟨(Wi.nV (lasS j (Wi.nS (ensS i (Wi.nS (Wi.nS st)))))), (Wi.nV (Wi.nS (lasS j (Wi.nS (ensS i (Wi.nS (Wi.nS st))))))), (Wi.nV (Wi.nS (Wi.nS (lasS j (Wi.nS (ensS i (Wi.nS (Wi.nS st)))))))), 0, 0, 0, 0⟩)]) := HF
        refine WL.nil <| ?_
        try simp only [pS]
        go_upto_region 20 with fail
        refine WL.start <| tK (pg i0 0) <| rC (.int .i64 (Wi.nV (Wi.nS (Wi.nS (Wi.nS (lasS j (Wi.nS (ensS i (Wi.nS (Wi.nS st)))))))))) ((Wi.nS (Wi.nS (Wi.nS (Wi.nS (lasS j (Wi.nS (ensS i (Wi.nS (Wi.nS st)))))))), false)) HF (fun h => lsGot h (fun h => lsGot h (fun h => i_num h))) fun w20 HF => ?_
        try simp only [pS]
        have HF : Hid (Kr (lsSrc (lsSrc (inSrc i0 g ba bc bs) 92 4 w.heap.size a1 i c1 (enL (ensL i (Wi.nS (Wi.nS st))))) 94 7 w.heap.size a3 j c3 (laL (lasL j (Wi.nS (ensS i (Wi.nS (Wi.nS st))))))) w w20 (Wi.nS (Wi.nS (Wi.nS (Wi.nS (lasS j (Wi.nS (ensS i (Wi.nS (Wi.nS st)))))))), false) [(g1, 43, Bv.cells bvZ), (g3, 43, Bv.cells (⟨(Wi.nV st), ⟨a1, i, c1⟩, ⟨a3, j, c3⟩⟩)), (g11, 94, La.cells ⟨(Wi.nV (lasS j (Wi.nS (ensS i (Wi.nS (Wi.nS st)))))), (Wi.nV (Wi.nS (lasS j (Wi.nS (ensS i (Wi.nS (Wi.nS st))))))), (Wi.nV (Wi.nS (Wi.nS (lasS j (Wi.nS (ensS i (Wi.nS (Wi.nS st)))))))), 0, 0, 0, 0⟩)]) := HF
        refine tK (pg g11 3) <| rW (La.cs ⟨(Wi.nV (lasS j (Wi.nS (ensS i (Wi.nS (Wi.nS st)))))), (Wi.nV (Wi.nS (lasS j (Wi.nS (ensS i (Wi.nS (Wi.nS st))))))), (Wi.nV (Wi.nS (Wi.nS (lasS j (Wi.nS (ensS i (Wi.nS (Wi.nS st)))))))), (Wi.nV (Wi.nS (Wi.nS (Wi.nS (lasS j (Wi.nS (ensS i (Wi.nS (Wi.nS st))))))))), 0, 0, 0⟩) ([.int .i64 (Wi.nV (Wi.nS (Wi.nS (Wi.nS (lasS j (Wi.nS (ensS i (Wi.nS (Wi.nS st)))))))))]) HF 2 3 (v := .int .i64 (Wi.nV (Wi.nS (Wi.nS (Wi.nS (lasS j (Wi.nS (ensS i (Wi.nS (Wi.nS st)))))))))) rfl S47 (by simp [Value.oneCell', Sl.v]) (La.cs ⟨(Wi.nV (lasS j (Wi.nS (ensS i (Wi.nS (Wi.nS st)))))), (Wi.nV (Wi.nS (lasS j (Wi.nS (ensS i (Wi.nS (Wi.nS st))))))), (Wi.nV (Wi.nS (Wi.nS (lasS j (Wi.nS (ensS i (Wi.nS (Wi.nS st)))))))), 0, 0, 0, 0⟩) rfl fun w21 HF => ?_
        try simp only [pS]
        have HF : Hid (Kr (lsSrc (lsSrc (inSrc i0 g ba bc bs) 92 4 w.heap.size a1 i c1 (enL (ensL i (Wi.nS (Wi.nS st))))) 94 7 w.heap.size a3 j c3 (laL (lasL j (Wi.nS (ensS i (Wi.nS (Wi.nS st))))))) w w21 (Wi.nS (Wi.nS (Wi.nS (Wi.nS (lasS j (Wi.nS (ensS i (Wi.nS (Wi.nS st)))))))), false) [(g1, 43, Bv.cells bvZ), (g3, 43, Bv.cells (⟨(Wi.nV st), ⟨a1, i, c1⟩, ⟨a3, j, c3⟩⟩)), (g11, 94, La.cells ⟨(Wi.nV (lasS j (Wi.nS (ensS i (Wi.nS (Wi.nS st)))))), (Wi.nV (Wi.nS (lasS j (Wi.nS (ensS i (Wi.nS (Wi.nS st))))))), (Wi.nV (Wi.nS (Wi.nS (lasS j (Wi.nS (ensS i (Wi.nS (Wi.nS st)))))))), (Wi.nV (Wi.nS (Wi.nS (Wi.nS (lasS j (Wi.nS (ensS i (Wi.nS (Wi.nS st))))))))), 0, 0, 0⟩)]) := HF
        refine WL.nil <| ?_
        try simp only [pS]
        go_upto_region 21 with fail
        refine WL.start <| tK (pg i0 0) <| rC (.agg (Fi.cells (fiV (Wi.nS (Wi.nS (Wi.nS (Wi.nS (lasS j (Wi.nS (ensS i (Wi.nS (Wi.nS st)))))))))))) ((Wi.aS (Wi.nS (Wi.nS (Wi.nS (Wi.nS (lasS j (Wi.nS (ensS i (Wi.nS (Wi.nS st))))))))), false)) HF (fun h => lsGot h (fun h => lsGot h (fun h => r_rfile h))) fun w22 HF => ?_
        try simp only [pS]
        have HF : Hid (Kr (lsSrc (lsSrc (inSrc i0 g ba bc bs) 92 4 w.heap.size a1 i c1 (enL (ensL i (Wi.nS (Wi.nS st))))) 94 7 w.heap.size a3 j c3 (laL (lasL j (Wi.nS (ensS i (Wi.nS (Wi.nS st))))))) w w22 (Wi.aS (Wi.nS (Wi.nS (Wi.nS (Wi.nS (lasS j (Wi.nS (ensS i (Wi.nS (Wi.nS st))))))))), false) [(g1, 43, Bv.cells bvZ), (g3, 43, Bv.cells (⟨(Wi.nV st), ⟨a1, i, c1⟩, ⟨a3, j, c3⟩⟩)), (g11, 94, La.cells ⟨(Wi.nV (lasS j (Wi.nS (ensS i (Wi.nS (Wi.nS st)))))), (Wi.nV (Wi.nS (lasS j (Wi.nS (ensS i (Wi.nS (Wi.nS st))))))), (Wi.nV (Wi.nS (Wi.nS (lasS j (Wi.nS (ensS i (Wi.nS (Wi.nS st)))))))), (Wi.nV (Wi.nS (Wi.nS (Wi.nS (lasS j (Wi.nS (ensS i (Wi.nS (Wi.nS st))))))))), 0, 0, 0⟩)]) := HF
        refine tK (pg g11 4) <| rW (La.cs ⟨(Wi.nV (lasS j (Wi.nS (ensS i (Wi.nS (Wi.nS st)))))), (Wi.nV (Wi.nS (lasS j (Wi.nS (ensS i (Wi.nS (Wi.nS st))))))), (Wi.nV (Wi.nS (Wi.nS (lasS j (Wi.nS (ensS i (Wi.nS (Wi.nS st)))))))), (Wi.nV (Wi.nS (Wi.nS (Wi.nS (lasS j (Wi.nS (ensS i (Wi.nS (Wi.nS st))))))))), ((fiV (Wi.nS (Wi.nS (Wi.nS (Wi.nS (lasS j (Wi.nS (ensS i (Wi.nS (Wi.nS st)))))))))).c), ((fiV (Wi.nS (Wi.nS (Wi.nS (Wi.nS (lasS j (Wi.nS (ensS i (Wi.nS (Wi.nS st)))))))))).o), 0⟩) (Fi.cs (fiV (Wi.nS (Wi.nS (Wi.nS (Wi.nS (lasS j (Wi.nS (ensS i (Wi.nS (Wi.nS st))))))))))) HF 2 4 (v := .agg (Fi.cells (fiV (Wi.nS (Wi.nS (Wi.nS (Wi.nS (lasS j (Wi.nS (ensS i (Wi.nS (Wi.nS st)))))))))))) rfl S37 (Fi.oneL _) (La.cs ⟨(Wi.nV (lasS j (Wi.nS (ensS i (Wi.nS (Wi.nS st)))))), (Wi.nV (Wi.nS (lasS j (Wi.nS (ensS i (Wi.nS (Wi.nS st))))))), (Wi.nV (Wi.nS (Wi.nS (lasS j (Wi.nS (ensS i (Wi.nS (Wi.nS st)))))))), (Wi.nV (Wi.nS (Wi.nS (Wi.nS (lasS j (Wi.nS (ensS i (Wi.nS (Wi.nS st))))))))), 0, 0, 0⟩) rfl fun w23 HF => ?_
        try simp only [pS]
        have HF : Hid (Kr (lsSrc (lsSrc (inSrc i0 g ba bc bs) 92 4 w.heap.size a1 i c1 (enL (ensL i (Wi.nS (Wi.nS st))))) 94 7 w.heap.size a3 j c3 (laL (lasL j (Wi.nS (ensS i (Wi.nS (Wi.nS st))))))) w w23 (Wi.aS (Wi.nS (Wi.nS (Wi.nS (Wi.nS (lasS j (Wi.nS (ensS i (Wi.nS (Wi.nS st))))))))), false) [(g1, 43, Bv.cells bvZ), (g3, 43, Bv.cells (⟨(Wi.nV st), ⟨a1, i, c1⟩, ⟨a3, j, c3⟩⟩)), (g11, 94, La.cells ⟨(Wi.nV (lasS j (Wi.nS (ensS i (Wi.nS (Wi.nS st)))))), (Wi.nV (Wi.nS (lasS j (Wi.nS (ensS i (Wi.nS (Wi.nS st))))))), (Wi.nV (Wi.nS (Wi.nS (lasS j (Wi.nS (ensS i (Wi.nS (Wi.nS st)))))))), (Wi.nV (Wi.nS (Wi.nS (Wi.nS (lasS j (Wi.nS (ensS i (Wi.nS (Wi.nS st))))))))), ((fiV (Wi.nS (Wi.nS (Wi.nS (Wi.nS (lasS j (Wi.nS (ensS i (Wi.nS (Wi.nS st)))))))))).c), ((fiV (Wi.nS (Wi.nS (Wi.nS (Wi.nS (lasS j (Wi.nS (ensS i (Wi.nS (Wi.nS st)))))))))).o), 0⟩)]) := HF
        refine WL.nil <| ?_
        try simp only [pS]
        go_upto_region 22 with fail
        refine WL.start <| tK (pg i0 0) <| rC (.int .i64 (Wi.nV (Wi.aS (Wi.nS (Wi.nS (Wi.nS (Wi.nS (lasS j (Wi.nS (ensS i (Wi.nS (Wi.nS st)))))))))))) ((Wi.nS (Wi.aS (Wi.nS (Wi.nS (Wi.nS (Wi.nS (lasS j (Wi.nS (ensS i (Wi.nS (Wi.nS st)))))))))), false)) HF (fun h => lsGot h (fun h => lsGot h (fun h => i_num h))) fun w24 HF => ?_
        try simp only [pS]
        have HF : Hid (Kr (lsSrc (lsSrc (inSrc i0 g ba bc bs) 92 4 w.heap.size a1 i c1 (enL (ensL i (Wi.nS (Wi.nS st))))) 94 7 w.heap.size a3 j c3 (laL (lasL j (Wi.nS (ensS i (Wi.nS (Wi.nS st))))))) w w24 (Wi.nS (Wi.aS (Wi.nS (Wi.nS (Wi.nS (Wi.nS (lasS j (Wi.nS (ensS i (Wi.nS (Wi.nS st)))))))))), false) [(g1, 43, Bv.cells bvZ), (g3, 43, Bv.cells (⟨(Wi.nV st), ⟨a1, i, c1⟩, ⟨a3, j, c3⟩⟩)), (g11, 94, La.cells ⟨(Wi.nV (lasS j (Wi.nS (ensS i (Wi.nS (Wi.nS st)))))), (Wi.nV (Wi.nS (lasS j (Wi.nS (ensS i (Wi.nS (Wi.nS st))))))), (Wi.nV (Wi.nS (Wi.nS (lasS j (Wi.nS (ensS i (Wi.nS (Wi.nS st)))))))), (Wi.nV (Wi.nS (Wi.nS (Wi.nS (lasS j (Wi.nS (ensS i (Wi.nS (Wi.nS st))))))))), ((fiV (Wi.nS (Wi.nS (Wi.nS (Wi.nS (lasS j (Wi.nS (ensS i (Wi.nS (Wi.nS st)))))))))).c), ((fiV (Wi.nS (Wi.nS (Wi.nS (Wi.nS (lasS j (Wi.nS (ensS i (Wi.nS (Wi.nS st)))))))))).o), 0⟩)]) := HF
        refine tK (pg g11 6) <| rW (La.cs ⟨(Wi.nV (lasS j (Wi.nS (ensS i (Wi.nS (Wi.nS st)))))), (Wi.nV (Wi.nS (lasS j (Wi.nS (ensS i (Wi.nS (Wi.nS st))))))), (Wi.nV (Wi.nS (Wi.nS (lasS j (Wi.nS (ensS i (Wi.nS (Wi.nS st)))))))), (Wi.nV (Wi.nS (Wi.nS (Wi.nS (lasS j (Wi.nS (ensS i (Wi.nS (Wi.nS st))))))))), ((fiV (Wi.nS (Wi.nS (Wi.nS (Wi.nS (lasS j (Wi.nS (ensS i (Wi.nS (Wi.nS st)))))))))).c), ((fiV (Wi.nS (Wi.nS (Wi.nS (Wi.nS (lasS j (Wi.nS (ensS i (Wi.nS (Wi.nS st)))))))))).o), (Wi.nV (Wi.aS (Wi.nS (Wi.nS (Wi.nS (Wi.nS (lasS j (Wi.nS (ensS i (Wi.nS (Wi.nS st)))))))))))⟩) ([.int .i64 (Wi.nV (Wi.aS (Wi.nS (Wi.nS (Wi.nS (Wi.nS (lasS j (Wi.nS (ensS i (Wi.nS (Wi.nS st)))))))))))]) HF 2 6 (v := .int .i64 (Wi.nV (Wi.aS (Wi.nS (Wi.nS (Wi.nS (Wi.nS (lasS j (Wi.nS (ensS i (Wi.nS (Wi.nS st)))))))))))) rfl S3 (by simp [Value.oneCell', Sl.v]) (La.cs ⟨(Wi.nV (lasS j (Wi.nS (ensS i (Wi.nS (Wi.nS st)))))), (Wi.nV (Wi.nS (lasS j (Wi.nS (ensS i (Wi.nS (Wi.nS st))))))), (Wi.nV (Wi.nS (Wi.nS (lasS j (Wi.nS (ensS i (Wi.nS (Wi.nS st)))))))), (Wi.nV (Wi.nS (Wi.nS (Wi.nS (lasS j (Wi.nS (ensS i (Wi.nS (Wi.nS st))))))))), ((fiV (Wi.nS (Wi.nS (Wi.nS (Wi.nS (lasS j (Wi.nS (ensS i (Wi.nS (Wi.nS st)))))))))).c), ((fiV (Wi.nS (Wi.nS (Wi.nS (Wi.nS (lasS j (Wi.nS (ensS i (Wi.nS (Wi.nS st)))))))))).o), 0⟩) rfl fun w25 HF => ?_
        try simp only [pS]
        have HF : Hid (Kr (lsSrc (lsSrc (inSrc i0 g ba bc bs) 92 4 w.heap.size a1 i c1 (enL (ensL i (Wi.nS (Wi.nS st))))) 94 7 w.heap.size a3 j c3 (laL (lasL j (Wi.nS (ensS i (Wi.nS (Wi.nS st))))))) w w25 (Wi.nS (Wi.aS (Wi.nS (Wi.nS (Wi.nS (Wi.nS (lasS j (Wi.nS (ensS i (Wi.nS (Wi.nS st)))))))))), false) [(g1, 43, Bv.cells bvZ), (g3, 43, Bv.cells (⟨(Wi.nV st), ⟨a1, i, c1⟩, ⟨a3, j, c3⟩⟩)), (g11, 94, La.cells ⟨(Wi.nV (lasS j (Wi.nS (ensS i (Wi.nS (Wi.nS st)))))), (Wi.nV (Wi.nS (lasS j (Wi.nS (ensS i (Wi.nS (Wi.nS st))))))), (Wi.nV (Wi.nS (Wi.nS (lasS j (Wi.nS (ensS i (Wi.nS (Wi.nS st)))))))), (Wi.nV (Wi.nS (Wi.nS (Wi.nS (lasS j (Wi.nS (ensS i (Wi.nS (Wi.nS st))))))))), ((fiV (Wi.nS (Wi.nS (Wi.nS (Wi.nS (lasS j (Wi.nS (ensS i (Wi.nS (Wi.nS st)))))))))).c), ((fiV (Wi.nS (Wi.nS (Wi.nS (Wi.nS (lasS j (Wi.nS (ensS i (Wi.nS (Wi.nS st)))))))))).o), (Wi.nV (Wi.aS (Wi.nS (Wi.nS (Wi.nS (Wi.nS (lasS j (Wi.nS (ensS i (Wi.nS (Wi.nS st)))))))))))⟩)]) := HF
        refine WL.nil <| ?_
        try simp only [pS]
        go_upto_region 23 with fail
        refine WL.start <| tK (pg g3 2) <| rD (.slice a3 j c3) HF 1 2 U41 rfl <| rP (La.cs ⟨(Wi.nV (lasS j (Wi.nS (ensS i (Wi.nS (Wi.nS st)))))), (Wi.nV (Wi.nS (lasS j (Wi.nS (ensS i (Wi.nS (Wi.nS st))))))), (Wi.nV (Wi.nS (Wi.nS (lasS j (Wi.nS (ensS i (Wi.nS (Wi.nS st)))))))), (Wi.nV (Wi.nS (Wi.nS (Wi.nS (lasS j (Wi.nS (ensS i (Wi.nS (Wi.nS st))))))))), ((fiV (Wi.nS (Wi.nS (Wi.nS (Wi.nS (lasS j (Wi.nS (ensS i (Wi.nS (Wi.nS st)))))))))).c), ((fiV (Wi.nS (Wi.nS (Wi.nS (Wi.nS (lasS j (Wi.nS (ensS i (Wi.nS (Wi.nS st)))))))))).o), (Wi.nV (Wi.aS (Wi.nS (Wi.nS (Wi.nS (Wi.nS (lasS j (Wi.nS (ensS i (Wi.nS (Wi.nS st)))))))))))⟩) HF 2 0 U94 S94 (La.cs ⟨(Wi.nV (lasS j (Wi.nS (ensS i (Wi.nS (Wi.nS st)))))), (Wi.nV (Wi.nS (lasS j (Wi.nS (ensS i (Wi.nS (Wi.nS st))))))), (Wi.nV (Wi.nS (Wi.nS (lasS j (Wi.nS (ensS i (Wi.nS (Wi.nS st)))))))), (Wi.nV (Wi.nS (Wi.nS (Wi.nS (lasS j (Wi.nS (ensS i (Wi.nS (Wi.nS st))))))))), ((fiV (Wi.nS (Wi.nS (Wi.nS (Wi.nS (lasS j (Wi.nS (ensS i (Wi.nS (Wi.nS st)))))))))).c), ((fiV (Wi.nS (Wi.nS (Wi.nS (Wi.nS (lasS j (Wi.nS (ensS i (Wi.nS (Wi.nS st)))))))))).o), (Wi.nV (Wi.aS (Wi.nS (Wi.nS (Wi.nS (Wi.nS (lasS j (Wi.nS (ensS i (Wi.nS (Wi.nS st)))))))))))⟩) rfl <| rAp (news := La.cs ⟨(Wi.nV (lasS j (Wi.nS (ensS i (Wi.nS (Wi.nS st)))))), (Wi.nV (Wi.nS (lasS j (Wi.nS (ensS i (Wi.nS (Wi.nS st))))))), (Wi.nV (Wi.nS (Wi.nS (lasS j (Wi.nS (ensS i (Wi.nS (Wi.nS st)))))))), (Wi.nV (Wi.nS (Wi.nS (Wi.nS (lasS j (Wi.nS (ensS i (Wi.nS (Wi.nS st))))))))), ((fiV (Wi.nS (Wi.nS (Wi.nS (Wi.nS (lasS j (Wi.nS (ensS i (Wi.nS (Wi.nS st)))))))))).c), ((fiV (Wi.nS (Wi.nS (Wi.nS (Wi.nS (lasS j (Wi.nS (ensS i (Wi.nS (Wi.nS st)))))))))).o), (Wi.nV (Wi.aS (Wi.nS (Wi.nS (Wi.nS (Wi.nS (lasS j (Wi.nS (ensS i (Wi.nS (Wi.nS st)))))))))))⟩) HF E41_ I94 rfl (by omega) rfl (La.oneL _) (by omega) (by omega) fun a2 c2 w26 HF => ?_
        try simp only [pS]
        have HF : Hid (Kr (lsSrc (lsSrc (inSrc i0 g ba bc bs) 92 4 w.heap.size a1 i c1 (enL (ensL i (Wi.nS (Wi.nS st))))) 94 7 w.heap.size a2 (j + 1) c2 (laL (lasL j (Wi.nS (ensS i (Wi.nS (Wi.nS st))))) ++ La.cs ⟨(Wi.nV (lasS j (Wi.nS (ensS i (Wi.nS (Wi.nS st)))))), (Wi.nV (Wi.nS (lasS j (Wi.nS (ensS i (Wi.nS (Wi.nS st))))))), (Wi.nV (Wi.nS (Wi.nS (lasS j (Wi.nS (ensS i (Wi.nS (Wi.nS st)))))))), (Wi.nV (Wi.nS (Wi.nS (Wi.nS (lasS j (Wi.nS (ensS i (Wi.nS (Wi.nS st))))))))), ((fiV (Wi.nS (Wi.nS (Wi.nS (Wi.nS (lasS j (Wi.nS (ensS i (Wi.nS (Wi.nS st)))))))))).c), ((fiV (Wi.nS (Wi.nS (Wi.nS (Wi.nS (lasS j (Wi.nS (ensS i (Wi.nS (Wi.nS st)))))))))).o), (Wi.nV (Wi.aS (Wi.nS (Wi.nS (Wi.nS (Wi.nS (lasS j (Wi.nS (ensS i (Wi.nS (Wi.nS st)))))))))))⟩)) w w26 (Wi.nS (Wi.aS (Wi.nS (Wi.nS (Wi.nS (Wi.nS (lasS j (Wi.nS (ensS i (Wi.nS (Wi.nS st)))))))))), false) [(g1, 43, Bv.cells bvZ), (g3, 43, Bv.cells (⟨(Wi.nV st), ⟨a1, i, c1⟩, ⟨a3, j, c3⟩⟩)), (g11, 94, La.cells ⟨(Wi.nV (lasS j (Wi.nS (ensS i (Wi.nS (Wi.nS st)))))), (Wi.nV (Wi.nS (lasS j (Wi.nS (ensS i (Wi.nS (Wi.nS st))))))), (Wi.nV (Wi.nS (Wi.nS (lasS j (Wi.nS (ensS i (Wi.nS (Wi.nS st)))))))), (Wi.nV (Wi.nS (Wi.nS (Wi.nS (lasS j (Wi.nS (ensS i (Wi.nS (Wi.nS st))))))))), ((fiV (Wi.nS (Wi.nS (Wi.nS (Wi.nS (lasS j (Wi.nS (ensS i (Wi.nS (Wi.nS st)))))))))).c), ((fiV (Wi.nS (Wi.nS (Wi.nS (Wi.nS (lasS j (Wi.nS (ensS i (Wi.nS (Wi.nS st)))))))))).o), (Wi.nV (Wi.aS (Wi.nS (Wi.nS (Wi.nS (Wi.nS (lasS j (Wi.nS (ensS i (Wi.nS (Wi.nS st)))))))))))⟩)]) := HF
        refine tK (pg g3 2) <| rW (Bv.cs (⟨(Wi.nV st), ⟨a1, i, c1⟩, ⟨a2, (j + 1), c2⟩⟩)) ([.slice a2 (j + 1) c2]) HF 1 2 (v := .slice a2 (j + 1) c2) rfl S41 (by simp [Value.oneCell', Sl.v]) (Bv.cs (⟨(Wi.nV st), ⟨a1, i, c1⟩, ⟨a3, j, c3⟩⟩)) rfl fun w27 HF => ?_
        try simp only [pS]
        have HF : Hid (Kr (lsSrc (lsSrc (inSrc i0 g ba bc bs) 92 4 w.heap.size a1 i c1 (enL (ensL i (Wi.nS (Wi.nS st))))) 94 7 w.heap.size a2 (j + 1) c2 (laL (lasL j (Wi.nS (ensS i (Wi.nS (Wi.nS st))))) ++ La.cs ⟨(Wi.nV (lasS j (Wi.nS (ensS i (Wi.nS (Wi.nS st)))))), (Wi.nV (Wi.nS (lasS j (Wi.nS (ensS i (Wi.nS (Wi.nS st))))))), (Wi.nV (Wi.nS (Wi.nS (lasS j (Wi.nS (ensS i (Wi.nS (Wi.nS st)))))))), (Wi.nV (Wi.nS (Wi.nS (Wi.nS (lasS j (Wi.nS (ensS i (Wi.nS (Wi.nS st))))))))), ((fiV (Wi.nS (Wi.nS (Wi.nS (Wi.nS (lasS j (Wi.nS (ensS i (Wi.nS (Wi.nS st)))))))))).c), ((fiV (Wi.nS (Wi.nS (Wi.nS (Wi.nS (lasS j (Wi.nS (ensS i (Wi.nS (Wi.nS st)))))))))).o), (Wi.nV (Wi.aS (Wi.nS (Wi.nS (Wi.nS (Wi.nS (lasS j (Wi.nS (ensS i (Wi.nS (Wi.nS st)))))))))))⟩)) w w27 (Wi.nS (Wi.aS (Wi.nS (Wi.nS (Wi.nS (Wi.nS (lasS j (Wi.nS (ensS i (Wi.nS (Wi.nS st)))))))))), false) [(g1, 43, Bv.cells bvZ), (g3, 43, Bv.cells (⟨(Wi.nV st), ⟨a1, i, c1⟩, ⟨a2, (j + 1), c2⟩⟩)), (g11, 94, La.cells ⟨(Wi.nV (lasS j (Wi.nS (ensS i (Wi.nS (Wi.nS st)))))), (Wi.nV (Wi.nS (lasS j (Wi.nS (ensS i (Wi.nS (Wi.nS st))))))), (Wi.nV (Wi.nS (Wi.nS (lasS j (Wi.nS (ensS i (Wi.nS (Wi.nS st)))))))), (Wi.nV (Wi.nS (Wi.nS (Wi.nS (lasS j (Wi.nS (ensS i (Wi.nS (Wi.nS st))))))))), ((fiV (Wi.nS (Wi.nS (Wi.nS (Wi.nS (lasS j (Wi.nS (ensS i (Wi.nS (Wi.nS st)))))))))).c), ((fiV (Wi.nS (Wi.nS (Wi.nS (Wi.nS (lasS j (Wi.nS (ensS i (Wi.nS (Wi.nS st)))))))))).o), (Wi.nV (Wi.aS (Wi.nS (Wi.nS (Wi.nS (Wi.nS (lasS j (Wi.nS (ensS i (Wi.nS (Wi.nS st)))))))))))⟩)]) := HF
        refine WL.nil <| ?_
        try simp only [pS]
        go_upto_region 15 with fail
        refine WL.start <| tK (.int .i64 ((j : Nat) : Int)) <| bN (v := .int .i64 (((j + 1) : Nat) : Int)) (b_addw ((j : Nat) : Int) 1 (((j + 1) : Nat) : Int) (by rw [IntKind.wrap_i64]; omega)) <| tK (.int .i64 (((j + 1) : Nat) : Int)) <| WL.nil <| ?_
        try simp only [pS]
        go_wp2
        go_roundw
        case rel => exact ⟨j + 1, a2, c2, by go_num, by omega, by omega, (by rw [lasL_succ, laL_one1]; exact Kr.front (l := [(g1, 43, Bv.cells bvZ), (g3, 43, Bv.cells (⟨(Wi.nV st), ⟨a1, i, c1⟩, ⟨a2, (j + 1), c2⟩⟩))]) (m := [(g11, 94, La.cells ⟨(Wi.nV (lasS j (Wi.nS (ensS i (Wi.nS (Wi.nS st)))))), (Wi.nV (Wi.nS (lasS j (Wi.nS (ensS i (Wi.nS (Wi.nS st))))))), (Wi.nV (Wi.nS (Wi.nS (lasS j (Wi.nS (ensS i (Wi.nS (Wi.nS st)))))))), (Wi.nV (Wi.nS (Wi.nS (Wi.nS (lasS j (Wi.nS (ensS i (Wi.nS (Wi.nS st))))))))), ((fiV (Wi.nS (Wi.nS (Wi.nS (Wi.nS (lasS j (Wi.nS (ensS i (Wi.nS (Wi.nS st)))))))))).c), ((fiV (Wi.nS (Wi.nS (Wi.nS (Wi.nS (lasS j (Wi.nS (ensS i (Wi.nS (Wi.nS st)))))))))).o), (Wi.nV (Wi.aS (Wi.nS (Wi.nS (Wi.nS (Wi.nS (lasS j (Wi.nS (ensS i (Wi.nS (Wi.nS st)))))))))))⟩)]) HF)⟩
        case measure => simp [intOf]; omega
       ·skip
        go_upto_region 14 with fail
        refine WL.start <| tK (.int .i64 ((j : Nat) : Int)) <| tK (.int .i64 ((M : Nat) : Int)) <| bN (lI (a := ((j : Nat) : Int)) (b := ((M : Nat) : Int)) (decide_eq_false (by omega))) <| tK (.bool false) <| sK <| sK <| sK <| sK <| sK <| sK <| sK <| sK <| tK (.bool false) <| WL.nil <| ?_
        try simp only [pS]
        go_upto_region 24 with fail
        refine WL.start <| rP (Bv.cs (⟨(Wi.nV st), ⟨a1, i, c1⟩, ⟨a3, j, c3⟩⟩)) HF 1 0 U43 S43 (Bv.cs (⟨(Wi.nV st), ⟨a1, i, c1⟩, ⟨a3, j, c3⟩⟩)) rfl <| rW (Bv.cs (⟨(Wi.nV st), ⟨a1, i, c1⟩, ⟨a3, j, c3⟩⟩)) (Bv.cs (⟨(Wi.nV st), ⟨a1, i, c1⟩, ⟨a3, j, c3⟩⟩)) HF 0 0 (v := .agg (Bv.cells (⟨(Wi.nV st), ⟨a1, i, c1⟩, ⟨a3, j, c3⟩⟩))) rfl S43 (Bv.oneL _) (Bv.cs bvZ) rfl fun w28 HF => ?_
        try simp only [pS]
        have HF : Hid (Kr (lsSrc (lsSrc (inSrc i0 g ba bc bs) 92 4 w.heap.size a1 i c1 (enL (ensL i (Wi.nS (Wi.nS st))))) 94 7 w.heap.size a3 j c3 (laL (lasL j (Wi.nS (ensS i (Wi.nS (Wi.nS st))))))) w w28 (lasS j (Wi.nS (ensS i (Wi.nS (Wi.nS st)))), false) [(g1, 43, Bv.cells (⟨(Wi.nV st), ⟨a1, i, c1⟩, ⟨a3, j, c3⟩⟩)), (g3, 43, Bv.cells (⟨(Wi.nV st), ⟨a1, i, c1⟩, ⟨a3, j, c3⟩⟩))]) := HF
        refine WL.nil <| ?_
        try simp only [pS]
        go_wp2
        rw [HC.out]
        refine bodyPost_ret (results_row1 (by rfl) _ _ g1 (Bv.cells (⟨(Wi.nV st), ⟨a1, i, c1⟩, ⟨a3, j, c3⟩⟩)) (by rfl) (run_load_part (cs := Bv.cs (⟨(Wi.nV st), ⟨a1, i, c1⟩, ⟨a3, j, c3⟩⟩)) (sub := Bv.cs (⟨(Wi.nV st), ⟨a1, i, c1⟩, ⟨a3, j, c3⟩⟩)) (HF.out.fq.box 0 _ _ _ rfl) (Part.all _) U43 rfl S43)) rfl ?_
        exact ⟨N, M, i, j, a1, c1, a3, c3, hN, hM, hii, hij, hzi, hzj, fun h => q1, fun h => absurd h hltj, rfl, HF.out.st.1.1, HF.out.fq.kept, HF.out.st.1.2.1, HF.out.st.2.1⟩
    ·skip
     go_upto_region 5 with fail
     refine WL.start <| tK (.int .i64 ((i : Nat) : Int)) <| tK (.int .i64 ((N : Nat) : Int)) <| bN (lI (a := ((i : Nat) : Int)) (b := ((N : Nat) : Int)) (decide_eq_false (by omega))) <| tK (.bool false) <| sK <| sK <| sK <| sK <| sK <| sK <| sK <| sK <| tK (.bool false) <| WL.nil <| ?_
     try simp only [pS]
     go_upto_region 12 with fail
     refine WL.start <| tK (pg i0 0) <| ?_
     try simp only [pS]
     obtain ⟨M, hM⟩ : ∃ M : Nat, Wi.nV (ensS i (Wi.nS (Wi.nS st))) = ((M : Nat) : Int) := ⟨(Wi.nV (ensS i (Wi.nS (Wi.nS st)))).toNat, by have := nV_pos (ensS i (Wi.nS (Wi.nS st))); omega⟩
     refine rC (.int .i64 ((M : Nat) : Int)) ((Wi.nS (ensS i (Wi.nS (Wi.nS st))), false)) HF (fun h => lsGot h (fun h => i_numN hM h)) fun w42 HF => ?_
     try simp only [pS]
     have HF : Hid (Kr (lsSrc (inSrc i0 g ba bc bs) 92 4 w.heap.size a1 i c1 (enL (ensL i (Wi.nS (Wi.nS st))))) w w42 (Wi.nS (ensS i (Wi.nS (Wi.nS st))), false) [(g1, 43, Bv.cells bvZ), (g3, 43, Bv.cells (⟨(Wi.nV st), ⟨a1, i, c1⟩, slZ⟩))]) := HF
     refine tK (.int .i64 ((M : Nat) : Int)) <| WL.nil <| ?_
     try simp only [pS]
     go_upto_region 13 with fail
     refine WL.start <| tK (.int .i64 0) <| WL.nil <| ?_
     try simp only [pS]
     have hu3 : uR (Wi.nS (ensS i (Wi.nS (Wi.nS st)))) := (took_n _ (ens_u hu2 i)).1
     have hr3 : room (Wi.nS (ensS i (Wi.nS (Wi.nS st)))) 131072 := fun zs a e => by
       have := (took_len (ens_u hu2 i) (took_n _) (ens_room hu2 hr2 i).1).1 zs a e
       omega
     have HF : Hid (Kr (lsSrc (lsSrc (inSrc i0 g ba bc bs) 92 4 w.heap.size a1 i c1 (enL (ensL i (Wi.nS (Wi.nS st))))) 94 7 w.heap.size none 0 0 []) w w42 (Wi.nS (ensS i (Wi.nS (Wi.nS st))), false) [(g1, 43, Bv.cells bvZ), (g3, 43, Bv.cells (⟨(Wi.nV st), ⟨a1, i, c1⟩, slZ⟩))]) := Kr.ls 94 7 w.heap.size HF.out
     go_wp2
     go_loopw [7] (fun v7 wr => ∃ (j : Nat) (a3 : Option Addr) (c3 : Nat), v7 = .int .i64 ((j : Nat) : Int) ∧ j ≤ M ∧ j ≤ 131073 ∧ Hid (Kr (lsSrc (lsSrc (inSrc i0 g ba bc bs) 92 4 w.heap.size a1 i c1 (enL (ensL i (Wi.nS (Wi.nS st))))) 94 7 w.heap.size a3 j c3 (laL (lasL j (Wi.nS (ensS i (Wi.nS (Wi.nS st))))))) w wr (lasS j (Wi.nS (ensS i (Wi.nS (Wi.nS st)))), false) [(g1, 43, Bv.cells bvZ), (g3, 43, Bv.cells (⟨(Wi.nV st), ⟨a1, i, c1⟩, ⟨a3, j, c3⟩⟩))])) (fun v7 _ => M - (intOf v7).toNat)
     case atStart => exact ⟨0, none, 0, by go_num, by omega, by omega, HF⟩
     case round =>
       clear HF
       obtain ⟨j, a3, c3, rfl, hij, hzj, HF⟩ := hrel
       rename World => wq
       by_cases hltj : j < M
       ·skip
        go_upto_region 14 with fail
        refine WL.start <| tK (.int .i64 ((j : Nat) : Int)) <| tK (.int .i64 ((M : Nat) : Int)) <| bN (lI (a := ((j : Nat) : Int)) (b := ((M : Nat) : Int)) (decide_eq_true (by omega))) <| tK (.bool true) <| tK (pg i0 0) <| tK (pg i0 0) <| tK (pg i0 0) <| lR (load_one (Src.pt _ HF.out.st) U170 rfl) <| tK (pg g 0) <| tK (pg g 2) <| lR (load_one (inErr HF.out.st.1.1) U3 rfl) <| ?_
        try simp only [pS]
        cases q3 : (((Wi.errS (lasS j (Wi.nS (ensS i (Wi.nS (Wi.nS st)))))).2) == 0)
        ·skip
         refine bN (eI q3) <| tK (.bool false) <| WL.nil <| ?_
         try simp only [pS]
         go_upto_region 24 with fail
         refine WL.start <| rP (Bv.cs (⟨(Wi.nV st), ⟨a1, i, c1⟩, ⟨a3, j, c3⟩⟩)) HF 1 0 U43 S43 (Bv.cs (⟨(Wi.nV st), ⟨a1, i, c1⟩, ⟨a3, j, c3⟩⟩)) rfl <| rW (Bv.cs (⟨(Wi.nV st), ⟨a1, i, c1⟩, ⟨a3, j, c3⟩⟩)) (Bv.cs (⟨(Wi.nV st), ⟨a1, i, c1⟩, ⟨a3, j, c3⟩⟩)) HF 0 0 (v := .agg (Bv.cells (⟨(Wi.nV st), ⟨a1, i, c1⟩, ⟨a3, j, c3⟩⟩))) rfl S43 (Bv.oneL _) (Bv.cs bvZ) rfl fun w43 HF => ?_
         try simp only [pS]
         have HF : Hid (Kr (lsSrc (lsSrc (inSrc i0 g ba bc bs) 92 4 w.heap.size a1 i c1 (enL (ensL i (Wi.nS (Wi.nS st))))) 94 7 w.heap.size a3 j c3 (laL (lasL j (Wi.nS (ensS i (Wi.nS (Wi.nS st))))))) w w43 (lasS j (Wi.nS (ensS i (Wi.nS (Wi.nS st)))), false) [(g1, 43, Bv.cells (⟨(Wi.nV st), ⟨a1, i, c1⟩, ⟨a3, j, c3⟩⟩)), (g3, 43, Bv.cells (⟨(Wi.nV st), ⟨a1, i, c1⟩, ⟨a3, j, c3⟩⟩))]) := HF
         refine WL.nil <| ?_
         try simp only [pS]
         go_wp2
         rw [HC.out]
         refine bodyPost_ret (results_row1 (by rfl) _ _ g1 (Bv.cells (⟨(Wi.nV st), ⟨a1, i, c1⟩, ⟨a3, j, c3⟩⟩)) (by rfl) (run_load_part (cs := Bv.cs (⟨(Wi.nV st), ⟨a1, i, c1⟩, ⟨a3, j, c3⟩⟩)) (sub := Bv.cs (⟨(Wi.nV st), ⟨a1, i, c1⟩, ⟨a3, j, c3⟩⟩)) (HF.out.fq.box 0 _ _ _ rfl) (Part.all _) U43 rfl S43)) rfl ?_
         exact ⟨N, M, i, j, a1, c1, a3, c3, hN, hM, hii, hij, hzi, hzj, fun h => absurd h hlti, fun h => q3, rfl, HF.out.st.1.1, HF.out.fq.kept, HF.out.st.1.2.1, HF.out.st.2.1⟩
        have hbd : j ≤ 131072 := by
          obtain ⟨zs0, a0, e0⟩ := err_ok (las_u hu3 j) q3
          exact (las_room hu3 hr3 j).2 zs0 a0 e0
        refine bN (eI q3) <| tK (.bool true) <| WL.nil <| ?_
        try simp only [pS]
        go_upto_region 16 with fail
        refine WL.start <| bD (La.cells laZ) <| rA (La.cells laZ) Z94 HF fun g44 w45 HF => ?_
        try simp only [pS]
        have HF : Hid (Kr (lsSrc (lsSrc (inSrc i0 g ba bc bs) 92 4 w.heap.size a1 i c1 (enL (ensL i (Wi.nS (Wi.nS st))))) 94 7 w.heap.size a3 j c3 (laL (lasL j (Wi.nS (ensS i (Wi.nS (Wi.nS st))))))) w w45 (lasS j (Wi.nS (ensS i (Wi.nS (Wi.nS st)))), false) [(g1, 43, Bv.cells bvZ), (g3, 43, Bv.cells (⟨(Wi.nV st), ⟨a1, i, c1⟩, ⟨a3, j, c3⟩⟩)), (g44, 94, La.cells laZ)]) := HF
        refine rW (La.cs laZ) (La.cs laZ) HF 2 0 (v := .agg (La.cells laZ)) rfl S94 (La.oneL _) (La.cs laZ) rfl fun w46 HF => ?_
        try simp only [pS]
        have HF : Hid (Kr (lsSrc (lsSrc (inSrc i0 g ba bc bs) 92 4 w.heap.size a1 i c1 (enL (ensL i (Wi.nS (Wi.nS st))))) 94 7 w.heap.size a3 j c3 (laL (lasL j (Wi.nS (ensS i (Wi.nS (Wi.nS st))))))) w w46 (lasS j (Wi.nS (ensS i (Wi.nS (Wi.nS st)))), false) [(g1, 43, Bv.cells bvZ), (g3, 43, Bv.cells (⟨(Wi.nV st), ⟨a1, i, c1⟩, ⟨a3, j, c3⟩⟩)), (g44, 94, La.cells laZ)]) := HF
        refine WL.nil <| ?_
        try simp only [pS]
        go_upto_region 17 with fail
        refine WL.start <| tK (pg i0 0) <| rC (.int .i64 (Wi.nV (lasS j (Wi.nS (ensS i (Wi.nS (Wi.nS st))))))) ((Wi.nS (lasS j (Wi.nS (ensS i (Wi.nS (Wi.nS st))))), false)) HF (fun h => lsGot h (fun h => lsGot h (fun h => i_num h))) fun w47 HF => ?_
        try simp only [pS]
        have HF : Hid (Kr (lsSrc (lsSrc (inSrc i0 g ba bc bs) 92 4 w.heap.size a1 i c1 (enL (ensL i (Wi.nS (Wi.nS st))))) 94 7 w.heap.size a3 j c3 (laL (lasL j (Wi.nS (ensS i (Wi.nS (Wi.nS st))))))) w w47 (Wi.nS (lasS j (Wi.nS (ensS i (Wi.nS (Wi.nS st))))), false) [(g1, 43, Bv.cells bvZ), (g3, 43, Bv.cells (⟨(Wi.nV st), ⟨a1, i, c1⟩, ⟨a3, j, c3⟩⟩)), (g44, 94, La.cells laZ)]) := HF
        refine tK (pg g44 0) <| rW (La.cs ⟨(Wi.nV (lasS j (Wi.nS (ensS i (Wi.nS (Wi.nS st)))))), 0, 0, 0, 0, 0, 0⟩) ([.int .i64 (Wi.nV (lasS j (Wi.nS (ensS i (Wi.nS (Wi.nS st))))))]) HF 2 0 (v := .int .i64 (Wi.nV (lasS j (Wi.nS (ensS i (Wi.nS (Wi.nS st))))))) rfl S3 (by simp [Value.oneCell', Sl.v]) (La.cs laZ) rfl fun w48 HF => ?_
        try simp only [pS]
        have HF : Hid (Kr (lsSrc (lsSrc (inSrc i0 g ba bc bs) 92 4 w.heap.size a1 i c1 (enL (ensL i (Wi.nS (Wi.nS st))))) 94 7 w.heap.size a3 j c3 (laL (lasL j (Wi.nS (ensS i (Wi.nS (Wi.nS st))))))) w w48 (Wi.nS (lasS j (Wi.nS (ensS i (Wi.nS (Wi.nS st))))), false) [(g1, 43, Bv.cells bvZ), (g3, 43, Bv.cells (⟨(Wi.nV st), ⟨a1, i, c1⟩, ⟨a3, j, c3⟩⟩)), (g44, 94, La.cells ⟨(Wi.nV (lasS j (Wi.nS (ensS i (Wi.nS (Wi.nS st)))))), 0, 0, 0, 0, 0, 0⟩)]) := HF
        refine WL.nil <| ?_
        try simp only [pS]
        go_upto_region 18 with fail
        refine WL.start <| tK (pg i0 0) <| rC (.int .i64 (Wi.nV (Wi.nS (lasS j (Wi.nS (ensS i (Wi.nS (Wi.nS st)))))))) ((Wi.nS (Wi.nS (lasS j (Wi.nS (ensS i (Wi.nS (Wi.nS st)))))), false)) HF (fun h => lsGot h (fun h => lsGot h (fun h => i_num h))) fun w49 HF => ?_
        try simp only [pS]
        have HF : Hid (Kr (lsSrc (lsSrc (inSrc i0 g ba bc bs) 92 4 w.heap.size a1 i c1 (enL (ensL i (Wi.nS (Wi.nS st))))) 94 7 w.heap.size a3 j c3 (laL (lasL j (Wi.nS (ensS i (Wi.nS (Wi.nS st))))))) w w49 (Wi.nS (Wi.nS (lasS j (Wi.nS (ensS i (Wi.nS (Wi.nS st)))))), false) [(g1, 43, Bv.cells bvZ), (g3, 43, Bv.cells (⟨(Wi.nV st), ⟨a1, i, c1⟩, ⟨a3, j, c3⟩⟩)), (g44, 94, La.cells ⟨(Wi.nV (lasS j (Wi.nS (ensS i (Wi.nS (Wi.nS st)))))), 0, 0, 0, 0, 0, 0⟩)]) := HF
        refine tK (pg g44 1) <| rW (La.cs ⟨(Wi.nV (lasS j (Wi.nS (ensS i (Wi.nS (Wi.nS st)))))), (Wi.nV (Wi.nS (lasS j (Wi.nS (ensS i (Wi.nS (Wi.nS st))))))), 0, 0, 0, 0, 0⟩) ([.int .i64 (Wi.nV (Wi.nS (lasS j (Wi.nS (ensS i (Wi.nS (Wi.nS st)))))))]) HF 2 1 (v := .int .i64 (Wi.nV (Wi.nS (lasS j (Wi.nS (ensS i (Wi.nS (Wi.nS st)))))))) rfl S3 (by simp [Value.oneCell', Sl.v]) (La.cs ⟨(Wi.nV (lasS j (Wi.nS (ensS i (Wi.nS (Wi.nS st)))))), 0, 0, 0, 0, 0, 0⟩) rfl fun w50 HF => ?_
        try simp only [pS]
        have HF : Hid (Kr (lsSrc (lsSrc (inSrc i0 g ba bc bs) 92 4 w.heap.size a1 i c1 (enL (ensL i (Wi.nS (Wi.nS st))))) 94 7 w.heap.size a3 j c3 (laL (lasL j (Wi.nS (ensS i (Wi.nS (Wi.nS st))))))) w w50 (Wi.nS (Wi.nS (lasS j (Wi.nS (ensS i (Wi.nS (Wi.nS st)))))), false) [(g1, 43, Bv.cells bvZ), (g3, 43, Bv.cells (⟨(Wi.nV st), ⟨a1, i, c1⟩, ⟨a3, j, c3⟩⟩)), (g44, 94, La.cells ⟨(Wi.nV (lasS j (Wi.nS (ensS i (Wi.nS (Wi.nS st)))))), (Wi.nV (Wi.nS (lasS j (Wi.nS (ensS i (Wi.nS (Wi.nS st))))))), 0, 0, 0, 0, 0⟩)]) := HF
        refine WL.nil <| ?_
        try simp only [pS]
        go_upto_region 19 with fail
        refine WL.start <| tK (pg i0 0) <| rC (.int .i64 (Wi.nV (Wi.nS (Wi.nS (lasS j (Wi.nS (ensS i (Wi.nS (Wi.nS st))))))))) ((Wi.nS (Wi.nS (Wi.nS (lasS j (Wi.nS (ensS i (Wi.nS (Wi.nS st))))))), false)) HF (fun h => lsGot h (fun h => lsGot h (fun h => i_num h))) fun w51 HF => ?_
        try simp only [pS]
        have HF : Hid (Kr (lsSrc (lsSrc (inSrc i0 g ba bc bs) 92 4 w.heap.size a1 i c1 (enL (ensL i (Wi.nS (Wi.nS st))))) 94 7 w.heap.size a3 j c3 (laL (lasL j (Wi.nS (ensS i (Wi.nS (Wi.nS st))))))) w w51 (Wi.nS (Wi.nS (Wi.nS (lasS j (Wi.nS (ensS i (Wi.nS (Wi.nS st))))))), false) [(g1, 43, Bv.cells bvZ), (g3, 43, Bv.cells (⟨(Wi.nV st), ⟨a1, i, c1⟩, ⟨a3, j, c3⟩⟩)), (g44, 94, La.cells ⟨(Wi.nV (lasS j (Wi.nS (ensS i (Wi.nS (Wi.nS st)))))), (Wi.nV (Wi.nS (lasS j (Wi.nS (ensS i (Wi.nS (Wi.nS st))))))), 0, 0, 0, 0, 0⟩)]) := HF
        refine tK (pg g44 2) <| rW (La.cs ⟨(Wi.nV (lasS j (Wi.nS (ensS i (Wi.nS (Wi.nS st)))))), (Wi.nV (Wi.nS (lasS j (Wi.nS (ensS i (Wi.nS (Wi.nS st))))))), (Wi.nV (Wi.nS (Wi.nS (lasS j (Wi.nS (ensS i (Wi.nS (Wi.nS st)))))))), 0, 0, 0, 0⟩) ([.int .i64 (Wi.nV (Wi.nS (Wi.nS (lasS j (Wi.nS (ensS i (Wi.nS (Wi.nS st))))))))]) HF 2 2 (v := .int .i64 (Wi.nV (Wi.nS (Wi.nS (lasS j (Wi.nS (ensS i (Wi.nS (Wi.nS st))))))))) rfl S3 (by simp [Value.oneCell', Sl.v]) (La.cs ⟨(Wi.nV (lasS j (Wi.nS (ensS i (Wi.nS (Wi.nS st)))))), (Wi.nV (Wi.nS (lasS j (Wi.nS (ensS i (Wi.nS (Wi.nS st))))))), 0, 0, 0, 0, 0⟩) rfl fun w52 HF => ?_
        try simp only [pS]
        have HF : Hid (Kr (lsSrc (lsSrc (inSrc i0 g ba bc bs) 92 4 w.heap.size a1 i c1 (enL (ensL i (Wi.nS (Wi.nS st))))) 94 7 w.heap.size a3 j c3 (laL (lasL j (Wi.nS (ensS i (Wi.nS (Wi.nS st))))))) w w52 (Wi.nS (Wi.nS (Wi.nS (lasS j (Wi.nS (ensS i (Wi.nS (Wi.nS st))))))), false) [(g1, 43, Bv.cells bvZ), (g3, 43, Bv.cells (⟨(Wi.nV st), ⟨a1, i, c1⟩, ⟨a3, j, c3⟩⟩)), (g44, 94, La.cells ⟨(Wi.nV (lasS j (Wi.nS (ensS i (Wi.nS (Wi.nS st)))))), (Wi.nV (Wi.nS (lasS j (Wi.nS (ensS i (Wi.nS (Wi.nS st))))))), (Wi.nV (Wi.nS (Wi.nS (lasS j (Wi.nS (ensS i (Wi.nS (Wi.nS st)))))))), 0, 0, 0, 0⟩)]) := HF
        refine WL.nil <| ?_
        try simp only [pS]
        go_upto_region 20 with fail
        refine WL.start <| tK (pg i0 0) <| rC (.int .i64 (Wi.nV (Wi.nS (Wi.nS (Wi.nS (lasS j (Wi.nS (ensS i (Wi.nS (Wi.nS st)))))))))) ((Wi.nS (Wi.nS (Wi.nS (Wi.nS (lasS j (Wi.nS (ensS i (Wi.nS (Wi.nS st)))))))), false)) HF (fun h => lsGot h (fun h => lsGot h (fun h => i_num h))) fun w53 HF => ?_
        try simp only [pS]
        have HF : Hid (Kr (lsSrc (lsSrc (inSrc i0 g ba bc bs) 92 4 w.heap.size a1 i c1 (enL (ensL i (Wi.nS (Wi.nS st))))) 94 7 w.heap.size a3 j c3 (laL (lasL j (Wi.nS (ensS i (Wi.nS (Wi.nS st))))))) w w53 (Wi.nS (Wi.nS (Wi.nS (Wi.nS (lasS j (Wi.nS (ensS i (Wi.nS (Wi.nS st)))))))), false) [(g1, 43, Bv.cells bvZ), (g3, 43, Bv.cells (⟨(Wi.nV st), ⟨a1, i, c1⟩, ⟨a3, j, c3⟩⟩)), (g44, 94, La.cells ⟨(Wi.nV (lasS j (Wi.nS (ensS i (Wi.nS (Wi.nS st)))))), (Wi.nV (Wi.nS (lasS j (Wi.nS (ensS i (Wi.nS (Wi.nS st))))))), (Wi.nV (Wi.nS (Wi.nS (lasS j (Wi.nS (ensS i (Wi.nS (Wi.nS st)))))))), 0, 0, 0, 0⟩)]) := HF
        refine tK (pg g44 3) <| rW (La.cs ⟨(Wi.nV (lasS j (Wi.nS (ensS i (Wi.nS (Wi.nS st)))))), (Wi.nV (Wi.nS (lasS j (Wi.nS (ensS i (Wi.nS (Wi.nS st))))))), (Wi.nV (Wi.nS (Wi.nS (lasS j (Wi.nS (ensS i (Wi.nS (Wi.nS st)))))))), (Wi.nV (Wi.nS (Wi.nS (Wi.nS (lasS j (Wi.nS (ensS i (Wi.nS (Wi.nS st))))))))), 0, 0, 0⟩) ([.int .i64 (Wi.nV (Wi.nS (Wi.nS (Wi.nS (lasS j (Wi.nS (ensS i (Wi.nS (Wi.nS st)))))))))]) HF 2 3 (v := .int .i64 (Wi.nV (Wi.nS (Wi.nS (Wi.nS (lasS j (Wi.nS (ensS i (Wi.nS (Wi.nS st)))))))))) rfl S47 (by simp [Value.oneCell', Sl.v]) (La.cs ⟨(Wi.nV (lasS j (Wi.nS (ensS i (Wi.nS (Wi.nS st)))))), (Wi.nV (Wi.nS (lasS j (Wi.nS (ensS i (Wi.nS (Wi.nS st))))))), (Wi.nV (Wi.nS (Wi.nS (lasS j (Wi.nS (ensS i (Wi.nS (Wi.nS st)))))))), 0, 0, 0, 0⟩) rfl fun w54 HF => ?_
        try simp only [pS]
        have HF : Hid (Kr (lsSrc (lsSrc (inSrc i0 g ba bc bs) 92 4 w.heap.size a1 i c1 (enL (ensL i (Wi.nS (Wi.nS st))))) 94 7 w.heap.size a3 j c3 (laL (lasL j (Wi.nS (ensS i (Wi.nS (Wi.nS st))))))) w w54 (Wi.nS (Wi.nS (Wi.nS (Wi.nS (lasS j (Wi.nS (ensS i (Wi.nS (Wi.nS st)))))))), false) [(g1, 43, Bv.cells bvZ), (g3, 43, Bv.cells (⟨(Wi.nV st), ⟨a1, i, c1⟩, ⟨a3, j, c3⟩⟩)), (g44, 94, La.cells ⟨(Wi.nV (lasS j (Wi.nS (ensS i (Wi.nS (Wi.nS st)))))), (Wi.nV (Wi.nS (lasS j (Wi.nS (ensS i (Wi.nS (Wi.nS st))))))), (Wi.nV (Wi.nS (Wi.nS (lasS j (Wi.nS (ensS i (Wi.nS (Wi.nS st)))))))), (Wi.nV (Wi.nS (Wi.nS (Wi.nS (lasS j (Wi.nS (ensS i (Wi.nS (Wi.nS st))))))))), 0, 0, 0⟩)]) := HF
        refine WL.nil <| ?_
        try simp only [pS]
        go_upto_region 21 with fail
        refine WL.start <| tK (pg i0 0) <| rC (.agg (Fi.cells (fiV (Wi.nS (Wi.nS (Wi.nS (Wi.nS (lasS j (Wi.nS (ensS i (Wi.nS (Wi.nS st)))))))))))) ((Wi.aS (Wi.nS (Wi.nS (Wi.nS (Wi.nS (lasS j (Wi.nS (ensS i (Wi.nS (Wi.nS st))))))))), false)) HF (fun h => lsGot h (fun h => lsGot h (fun h => r_rfile h))) fun w55 HF => ?_
        try simp only [pS]
        have HF : Hid (Kr (lsSrc (lsSrc (inSrc i0 g ba bc bs) 92 4 w.heap.size a1 i c1 (enL (ensL i (Wi.nS (Wi.nS st))))) 94 7 w.heap.size a3 j c3 (laL (lasL j (Wi.nS (ensS i (Wi.nS (Wi.nS st))))))) w w55 (Wi.aS (Wi.nS (Wi.nS (Wi.nS (Wi.nS (lasS j (Wi.nS (ensS i (Wi.nS (Wi.nS st))))))))), false) [(g1, 43, Bv.cells bvZ), (g3, 43, Bv.cells (⟨(Wi.nV st), ⟨a1, i, c1⟩, ⟨a3, j, c3⟩⟩)), (g44, 94, La.cells ⟨(Wi.nV (lasS j (Wi.nS (ensS i (Wi.nS (Wi.nS st)))))), (Wi.nV (Wi.nS (lasS j (Wi.nS (ensS i (Wi.nS (Wi.nS st))))))), (Wi.nV (Wi.nS (Wi.nS (lasS j (Wi.nS (ensS i (Wi.nS (Wi.nS st)))))))), (Wi.nV (Wi.nS (Wi.nS (Wi.nS (lasS j (Wi.nS (ensS i (Wi.nS (Wi.nS st))))))))), 0, 0, 0⟩)]) := HF
        refine tK (pg g44 4) <| rW (La.cs ⟨(Wi.nV (lasS j (Wi.nS (ensS i (Wi.nS (Wi.nS st)))))), (Wi.nV (Wi.nS (lasS j (Wi.nS (ensS i (Wi.nS (Wi.nS st))))))), (Wi.nV (Wi.nS (Wi.nS (lasS j (Wi.nS (ensS i (Wi.nS (Wi.nS st)))))))), (Wi.nV (Wi.nS (Wi.nS (Wi.nS (lasS j (Wi.nS (ensS i (Wi.nS (Wi.nS st))))))))), ((fiV (Wi.nS (Wi.nS (Wi.nS (Wi.nS (lasS j (Wi.nS (ensS i (Wi.nS (Wi.nS st)))))))))).c), ((fiV (Wi.nS (Wi.nS (Wi.nS (Wi.nS (lasS j (Wi.nS (ensS i (Wi.nS (Wi.nS st)))))))))).o), 0⟩) (Fi.cs (fiV (Wi.nS (Wi.nS (Wi.nS (Wi.nS (lasS j (Wi.nS (ensS i (Wi.nS (Wi.nS st))))))))))) HF 2 4 (v := .agg (Fi.cells (fiV (Wi.nS (Wi.nS (Wi.nS (Wi.nS (lasS j (Wi.nS (ensS i (Wi.nS (Wi.nS st)))))))))))) rfl S37 (Fi.oneL _) (La.cs ⟨(Wi.nV (lasS j (Wi.nS (ensS i (Wi.nS (Wi.nS st)))))), (Wi.nV (Wi.nS (lasS j (Wi.nS (ensS i (Wi.nS (Wi.nS st))))))), (Wi.nV (Wi.nS (Wi.nS (lasS j (Wi.nS (ensS i (Wi.nS (Wi.nS st)))))))), (Wi.nV (Wi.nS (Wi.nS (Wi.nS (lasS j (Wi.nS (ensS i (Wi.nS (Wi.nS st))))))))), 0, 0, 0⟩) rfl fun w56 HF => ?_
        try simp only [pS]
        have HF : Hid (Kr (lsSrc (lsSrc (inSrc i0 g ba bc bs) 92 4 w.heap.size a1 i c1 (enL (ensL i (Wi.nS (Wi.nS st))))) 94 7 w.heap.size a3 j c3 (laL (lasL j (Wi.nS (ensS i (Wi.nS (Wi.nS st))))))) w w56 (Wi.aS (Wi.nS (Wi.nS (Wi.nS (Wi.nS (lasS j (Wi.nS (ensS i (Wi.nS (Wi.nS st))))))))), false) [(g1, 43, Bv.cells bvZ), (g3, 43, Bv.cells (⟨(Wi.nV st), ⟨a1, i, c1⟩, ⟨a3, j, c3⟩⟩)), (g44, 94, La.cells ⟨(Wi.nV (lasS j (Wi.nS (ensS i (Wi.nS (Wi.nS st)))))), (Wi.nV (Wi.nS (lasS j (Wi.nS (ensS i (Wi.nS (Wi.nS st))))))), (Wi.nV (Wi.nS (Wi.nS (lasS j (Wi.nS (ensS i (Wi.nS (Wi.nS st)))))))), (Wi.nV (Wi.nS (Wi.nS (Wi.nS (lasS j (Wi.nS (ensS i (Wi.nS (Wi.nS st))))))))), ((fiV (Wi.nS (Wi.nS (Wi.nS (Wi.nS (lasS j (Wi.nS (ensS i (Wi.nS (Wi.nS st)))))))))).c), ((fiV (Wi.nS (Wi.nS (Wi.nS (Wi.nS (lasS j (Wi.nS (ensS i (Wi.nS (Wi.nS st)))))))))).o), 0⟩)]) := HF
        refine WL.nil <| ?_
        try simp only [pS]
        go_upto_region 22 with fail
        refine WL.start <| tK (pg i0 0) <| rC (.int .i64 (Wi.nV (Wi.aS (Wi.nS (Wi.nS (Wi.nS (Wi.nS (lasS j (Wi.nS (ensS i (Wi.nS (Wi.nS st)))))))))))) ((Wi.nS (Wi.aS (Wi.nS (Wi.nS (Wi.nS (Wi.nS (lasS j (Wi.nS (ensS i (Wi.nS (Wi.nS st)))))))))), false)) HF (fun h => lsGot h (fun h => lsGot h (fun h => i_num h))) fun w57 HF => ?_
        try simp only [pS]
        have HF : Hid (Kr (lsSrc (lsSrc (inSrc i0 g ba bc bs) 92 4 w.heap.size a1 i c1 (enL (ensL i (Wi.nS (Wi.nS st))))) 94 7 w.heap.size a3 j c3 (laL (lasL j (Wi.nS (ensS i (Wi.nS (Wi.nS st))))))) w w57 (Wi.nS (Wi.aS (Wi.nS (Wi.nS (Wi.nS (Wi.nS (lasS j (Wi.nS (ensS i (Wi.nS (Wi.nS st)))))))))), false) [(g1, 43, Bv.cells bvZ), (g3, 43, Bv.cells (⟨(Wi.nV st), ⟨a1, i, c1⟩, ⟨a3, j, c3⟩⟩)), (g44, 94, La.cells ⟨(Wi.nV (lasS j (Wi.nS (ensS i (Wi.nS (Wi.nS st)))))), (Wi.nV (Wi.nS (lasS j (Wi.nS (ensS i (Wi.nS (Wi.nS st))))))), (Wi.nV (Wi.nS (Wi.nS (lasS j (Wi.nS (ensS i (Wi.nS (Wi.nS st)))))))), (Wi.nV (Wi.nS (Wi.nS (Wi.nS (lasS j (Wi.nS (ensS i (Wi.nS (Wi.nS st))))))))), ((fiV (Wi.nS (Wi.nS (Wi.nS (Wi.nS (lasS j (Wi.nS (ensS i (Wi.nS (Wi.nS st)))))))))).c), ((fiV (Wi.nS (Wi.nS (Wi.nS (Wi.nS (lasS j (Wi.nS (ensS i (Wi.nS (Wi.nS st)))))))))).o), 0⟩)]) := HF
        refine tK (pg g44 6) <| rW (La.cs ⟨(Wi.nV (lasS j (Wi.nS (ensS i (Wi.nS (Wi.nS st)))))), (Wi.nV (Wi.nS (lasS j (Wi.nS (ensS i (Wi.nS (Wi.nS st))))))), (Wi.nV (Wi.nS (Wi.nS (lasS j (Wi.nS (ensS i (Wi.nS (Wi.nS st)))))))), (Wi.nV (Wi.nS (Wi.nS (Wi.nS (lasS j (Wi.nS (ensS i (Wi.nS (Wi.nS st))))))))), ((fiV (Wi.nS (Wi.nS (Wi.nS (Wi.nS (lasS j (Wi.nS (ensS i (Wi.nS (Wi.nS st)))))))))).c), ((fiV (Wi.nS (Wi.nS (Wi.nS (Wi.nS (lasS j (Wi.nS (ensS i (Wi.nS (Wi.nS st)))))))))).o), (Wi.nV (Wi.aS (Wi.nS (Wi.nS (Wi.nS (Wi.nS (lasS j (Wi.nS (ensS i (Wi.nS (Wi.nS st)))))))))))⟩) ([.int .i64 (Wi.nV (Wi.aS (Wi.nS (Wi.nS (Wi.nS (Wi.nS (lasS j (Wi.nS (ensS i (Wi.nS (Wi.nS st)))))))))))]) HF 2 6 (v := .int .i64 (Wi.nV (Wi.aS (Wi.nS (Wi.nS (Wi.nS (Wi.nS (lasS j (Wi.nS (ensS i (Wi.nS (Wi.nS st)))))))))))) rfl S3 (by simp [Value.oneCell', Sl.v]) (La.cs ⟨(Wi.nV (lasS j (Wi.nS (ensS i (Wi.nS (Wi.nS st)))))), (Wi.nV (Wi.nS (lasS j (Wi.nS (ensS i (Wi.nS (Wi.nS st))))))), (Wi.nV (Wi.nS (Wi.nS (lasS j (Wi.nS (ensS i (Wi.nS (Wi.nS st)))))))), (Wi.nV (Wi.nS (Wi.nS (Wi.nS (lasS j (Wi.nS (ensS i (Wi.nS (Wi.nS st))))))))), ((fiV (Wi.nS (Wi.nS (Wi.nS (Wi.nS (lasS j (Wi.nS (ensS i (Wi.nS (Wi.nS st)))))))))).c), ((fiV (Wi.nS (Wi.nS (Wi.nS (Wi.nS (lasS j (Wi.nS (ensS i (Wi.nS (Wi.nS st)))))))))).o), 0⟩) rfl fun w58 HF => ?_
        try simp only [pS]
        have HF : Hid (Kr (lsSrc (lsSrc (inSrc i0 g ba bc bs) 92 4 w.heap.size a1 i c1 (enL (ensL i (Wi.nS (Wi.nS st))))) 94 7 w.heap.size a3 j c3 (laL (lasL j (Wi.nS (ensS i (Wi.nS (Wi.nS st))))))) w w58 (Wi.nS (Wi.aS (Wi.nS (Wi.nS (Wi.nS (Wi.nS (lasS j (Wi.nS (ensS i (Wi.nS (Wi.nS st)))))))))), false) [(g1, 43, Bv.cells bvZ), (g3, 43, Bv.cells (⟨(Wi.nV st), ⟨a1, i, c1⟩, ⟨a3, j, c3⟩⟩)), (g44, 94, La.cells ⟨(Wi.nV (lasS j (Wi.nS (ensS i (Wi.nS (Wi.nS st)))))), (Wi.nV (Wi.nS (lasS j (Wi.nS (ensS i (Wi.nS (Wi.nS st))))))), (Wi.nV (Wi.nS (Wi.nS (lasS j (Wi.nS (ensS i (Wi.nS (Wi.nS st)))))))), (Wi.nV (Wi.nS (Wi.nS (Wi.nS (lasS j (Wi.nS (ensS i (Wi.nS (Wi.nS st))))))))), ((fiV (Wi.nS (Wi.nS (Wi.nS (Wi.nS (lasS j (Wi.nS (ensS i (Wi.nS (Wi.nS st)))))))))).c), ((fiV (Wi.nS (Wi.nS (Wi.nS (Wi.nS (lasS j (Wi.nS (ensS i (Wi.nS (Wi.nS st)))))))))).o), (Wi.nV (Wi.aS (Wi.nS (Wi.nS (Wi.nS (Wi.nS (lasS j (Wi.nS (ensS i (Wi.nS (Wi.nS st)))))))))))⟩)]) := HF
        refine WL.nil <| ?_
        try simp only [pS]
        go_upto_region 23 with fail
        refine WL.start <| tK (pg g3 2) <| rD (.slice a3 j c3) HF 1 2 U41 rfl <| rP (La.cs ⟨(Wi.nV (lasS j (Wi.nS (ensS i (Wi.nS (Wi.nS st)))))), (Wi.nV (Wi.nS (lasS j (Wi.nS (ensS i (Wi.nS (Wi.nS st))))))), (Wi.nV (Wi.nS (Wi.nS (lasS j (Wi.nS (ensS i (Wi.nS (Wi.nS st)))))))), (Wi.nV (Wi.nS (Wi.nS (Wi.nS (lasS j (Wi.nS (ensS i (Wi.nS (Wi.nS st))))))))), ((fiV (Wi.nS (Wi.nS (Wi.nS (Wi.nS (lasS j (Wi.nS (ensS i (Wi.nS (Wi.nS st)))))))))).c), ((fiV (Wi.nS (Wi.nS (Wi.nS (Wi.nS (lasS j (Wi.nS (ensS i (Wi.nS (Wi.nS st)))))))))).o), (Wi.nV (Wi.aS (Wi.nS (Wi.nS (Wi.nS (Wi.nS (lasS j (Wi.nS (ensS i (Wi.nS (Wi.nS st)))))))))))⟩) HF 2 0 U94 S94 (La.cs ⟨(Wi.nV (lasS j (Wi.nS (ensS i (Wi.nS (Wi.nS st)))))), (Wi.nV (Wi.nS (lasS j (Wi.nS (ensS i (Wi.nS (Wi.nS st))))))), (Wi.nV (Wi.nS (Wi.nS (lasS j (Wi.nS (ensS i (Wi.nS (Wi.nS st)))))))), (Wi.nV (Wi.nS (Wi.nS (Wi.nS (lasS j (Wi.nS (ensS i (Wi.nS (Wi.nS st))))))))), ((fiV (Wi.nS (Wi.nS (Wi.nS (Wi.nS (lasS j (Wi.nS (ensS i (Wi.nS (Wi.nS st)))))))))).c), ((fiV (Wi.nS (Wi.nS (Wi.nS (Wi.nS (lasS j (Wi.nS (ensS i (Wi.nS (Wi.nS st)))))))))).o), (Wi.nV (Wi.aS (Wi.nS (Wi.nS (Wi.nS (Wi.nS (lasS j (Wi.nS (ensS i (Wi.nS (Wi.nS st)))))))))))⟩) rfl <| rAp (news := La.cs ⟨(Wi.nV (lasS j (Wi.nS (ensS i (Wi.nS (Wi.nS st)))))), (Wi.nV (Wi.nS (lasS j (Wi.nS (ensS i (Wi.nS (Wi.nS st))))))), (Wi.nV (Wi.nS (Wi.nS (lasS j (Wi.nS (ensS i (Wi.nS (Wi.nS st)))))))), (Wi.nV (Wi.nS (Wi.nS (Wi.nS (lasS j (Wi.nS (ensS i (Wi.nS (Wi.nS st))))))))), ((fiV (Wi.nS (Wi.nS (Wi.nS (Wi.nS (lasS j (Wi.nS (ensS i (Wi.nS (Wi.nS st)))))))))).c), ((fiV (Wi.nS (Wi.nS (Wi.nS (Wi.nS (lasS j (Wi.nS (ensS i (Wi.nS (Wi.nS st)))))))))).o), (Wi.nV (Wi.aS (Wi.nS (Wi.nS (Wi.nS (Wi.nS (lasS j (Wi.nS (ensS i (Wi.nS (Wi.nS st)))))))))))⟩) HF E41_ I94 rfl (by omega) rfl (La.oneL _) (by omega) (by omega) fun a2 c2 w59 HF => ?_
        try simp only [pS]
        have HF : Hid (Kr (lsSrc (lsSrc (inSrc i0 g ba bc bs) 92 4 w.heap.size a1 i c1 (enL (ensL i (Wi.nS (Wi.nS st))))) 94 7 w.heap.size a2 (j + 1) c2 (laL (lasL j (Wi.nS (ensS i (Wi.nS (Wi.nS st))))) ++ La.cs ⟨(Wi.nV (lasS j (Wi.nS (ensS i (Wi.nS (Wi.nS st)))))), (Wi.nV (Wi.nS (lasS j (Wi.nS (ensS i (Wi.nS (Wi.nS st))))))), (Wi.nV (Wi.nS (Wi.nS (lasS j (Wi.nS (ensS i (Wi.nS (Wi.nS st)))))))), (Wi.nV (Wi.nS (Wi.nS (Wi.nS (lasS j (Wi.nS (ensS i (Wi.nS (Wi.nS st))))))))), ((fiV (Wi.nS (Wi.nS (Wi.nS (Wi.nS (lasS j (Wi.nS (ensS i (Wi.nS (Wi.nS st)))))))))).c), ((fiV (Wi.nS (Wi.nS (Wi.nS (Wi.nS (lasS j (Wi.nS (ensS i (Wi.nS (Wi.nS st)))))))))).o), (Wi.nV (Wi.aS (Wi.nS (Wi.nS (Wi.nS (Wi.nS (lasS j (Wi.nS (ensS i (Wi.nS (Wi.nS st)))))))))))⟩)) w w59 (Wi.nS (Wi.aS (Wi.nS (Wi.nS (Wi.nS (Wi.nS (lasS j (Wi.nS (ensS i (Wi.nS (Wi.nS st)))))))))), false) [(g1, 43, Bv.cells bvZ), (g3, 43, Bv.cells (⟨(Wi.nV st), ⟨a1, i, c1⟩, ⟨a3, j, c3⟩⟩)), (g44, 94, La.cells ⟨(Wi.nV (lasS j (Wi.nS (ensS i (Wi.nS (Wi.nS st)))))), (Wi.nV (Wi.nS (lasS j (Wi.nS (ensS i (Wi.nS (Wi.nS st))))))), (Wi.nV (Wi.nS (Wi.nS (lasS j (Wi.nS (ensS i (Wi.nS (Wi.nS st)))))))), (Wi.nV (Wi.nS (Wi.nS (Wi.nS (lasS j (Wi.nS (ensS i (Wi.nS (Wi.nS st))))))))), ((fiV (Wi.nS (Wi.nS (Wi.nS (Wi.nS (lasS j (Wi.nS (ensS i (Wi.nS (Wi.nS st)))))))))).c), ((fiV (Wi.nS (Wi.nS (Wi.nS (Wi.nS (lasS j (Wi.nS (ensS i (Wi.nS (Wi.nS st)))))))))).o), (Wi.nV (Wi.aS (Wi.nS (Wi.nS (Wi.nS (Wi.nS (lasS j (Wi.nS (ensS i (Wi.nS (Wi.nS st)))))))))))⟩)]) := HF
        refine tK (pg g3 2) <| rW (Bv.cs (⟨(Wi.nV st), ⟨a1, i, c1⟩, ⟨a2, (j + 1), c2⟩⟩)) ([.slice a2 (j + 1) c2]) HF 1 2 (v := .slice a2 (j + 1) c2) rfl S41 (by simp [Value.oneCell', Sl.v]) (Bv.cs (⟨(Wi.nV st), ⟨a1, i, c1⟩, ⟨a3, j, c3⟩⟩)) rfl fun w60 HF => ?_
        try simp only [pS]
        have HF : Hid (Kr (lsSrc (lsSrc (inSrc i0 g ba bc bs) 92 4 w.heap.size a1 i c1 (enL (ensL i (Wi.nS (Wi.nS st))))) 94 7 w.heap.size a2 (j + 1) c2 (laL (lasL j (Wi.nS (ensS i (Wi.nS (Wi.nS st))))) ++ La.cs ⟨(Wi.nV (lasS j (Wi.nS (ensS i (Wi.nS (Wi.nS st)))))), (Wi.nV (Wi.nS (lasS j (Wi.nS (ensS i (Wi.nS (Wi.nS st))))))), (Wi.nV (Wi.nS (Wi.nS (lasS j (Wi.nS (ensS i (Wi.nS (Wi.nS st)))))))), (Wi.nV (Wi.nS (Wi.nS (Wi.nS (lasS j (Wi.nS (ensS i (Wi.nS (Wi.nS st))))))))), ((fiV (Wi.nS (Wi.nS (Wi.nS (Wi.nS (lasS j (Wi.nS (ensS i (Wi.nS (Wi.nS st)))))))))).c), ((fiV (Wi.nS (Wi.nS (Wi.nS (Wi.nS (lasS j (Wi.nS (ensS i (Wi.nS (Wi.nS st)))))))))).o), (Wi.nV (Wi.aS (Wi.nS (Wi.nS (Wi.nS (Wi.nS (lasS j (Wi.nS (ensS i (Wi.nS (Wi.nS st)))))))))))⟩)) w w60 (Wi.nS (Wi.aS (Wi.nS (Wi.nS (Wi.nS (Wi.nS (lasS j (Wi.nS (ensS i (Wi.nS (Wi.nS st)))))))))), false) [(g1, 43, Bv.cells bvZ), (g3, 43, Bv.cells (⟨(Wi.nV st), ⟨a1, i, c1⟩, ⟨a2, (j + 1), c2⟩⟩)), (g44, 94, La.cells ⟨(Wi.nV (lasS j (Wi.nS (ensS i (Wi.nS (Wi.nS st)))))), (Wi.nV (Wi.nS (lasS j (Wi.nS (ensS i (Wi.nS (Wi.nS st))))))), (Wi.nV (Wi.nS (Wi.nS (lasS j (Wi.nS (ensS i (Wi.nS (Wi.nS st)))))))), (Wi.nV (Wi.nS (Wi.nS (Wi.nS (lasS j (Wi.nS (ensS i (Wi.nS (Wi.nS st))))))))), ((fiV (Wi.nS (Wi.nS (Wi.nS (Wi.nS (lasS j (Wi.nS (ensS i (Wi.nS (Wi.nS st)))))))))).c), ((fiV (Wi.nS (Wi.nS (Wi.nS (Wi.nS (lasS j (Wi.nS (ensS i (Wi.nS (Wi.nS st)))))))))).o), (Wi.nV (Wi.aS (Wi.nS (Wi.nS (Wi.nS (Wi.nS (lasS j (Wi.nS (ensS i (Wi.nS (Wi.nS st)))))))))))⟩)]) := HF
        refine WL.nil <| ?_
        try simp only [pS]
        go_upto_region 15 with fail
        refine WL.start <| tK (.int .i64 ((j : Nat) : Int)) <| bN (v := .int .i64 (((j + 1) : Nat) : Int)) (b_addw ((j : Nat) : Int) 1 (((j + 1) : Nat) : Int) (by rw [IntKind.wrap_i64]; omega)) <| tK (.int .i64 (((j + 1) : Nat) : Int)) <| WL.nil <| ?_
        try simp only [pS]
        go_wp2
        go_roundw
        case rel => exact ⟨j + 1, a2, c2, by go_num, by omega, by omega, (by rw [lasL_succ, laL_one1]; exact Kr.front (l := [(g1, 43, Bv.cells bvZ), (g3, 43, Bv.cells (⟨(Wi.nV st), ⟨a1, i, c1⟩, ⟨a2, (j + 1), c2⟩⟩))]) (m := [(g44, 94, La.cells ⟨(Wi.nV (lasS j (Wi.nS (ensS i (Wi.nS (Wi.nS st)))))), (Wi.nV (Wi.nS (lasS j (Wi.nS (ensS i (Wi.nS (Wi.nS st))))))), (Wi.nV (Wi.nS (Wi.nS (lasS j (Wi.nS (ensS i (Wi.nS (Wi.nS st)))))))), (Wi.nV (Wi.nS (Wi.nS (Wi.nS (lasS j (Wi.nS (ensS i (Wi.nS (Wi.nS st))))))))), ((fiV (Wi.nS (Wi.nS (Wi.nS (Wi.nS (lasS j (Wi.nS (ensS i (Wi.nS (Wi.nS st)))))))))).c), ((fiV (Wi.nS (Wi.nS (Wi.nS (Wi.nS (lasS j (Wi.nS (ensS i (Wi.nS (Wi.nS st)))))))))).o), (Wi.nV (Wi.aS (Wi.nS (Wi.nS (Wi.nS (Wi.nS (lasS j (Wi.nS (ensS i (Wi.nS (Wi.nS st)))))))))))⟩)]) HF)⟩
        case measure => simp [intOf]; omega
       ·skip
        go_upto_region 14 with fail
        refine WL.start <| tK (.int .i64 ((j : Nat) : Int)) <| tK (.int .i64 ((M : Nat) : Int)) <| bN (lI (a := ((j : Nat) : Int)) (b := ((M : Nat) : Int)) (decide_eq_false (by omega))) <| tK (.bool false) <| sK <| sK <| sK <| sK <| sK <| sK <| sK <| sK <| tK (.bool false) <| WL.nil <| ?_
        try simp only [pS]
        go_upto_region 24 with fail
        refine WL.start <| rP (Bv.cs (⟨(Wi.nV st), ⟨a1, i, c1⟩, ⟨a3, j, c3⟩⟩)) HF 1 0 U43 S43 (Bv.cs (⟨(Wi.nV st), ⟨a1, i, c1⟩, ⟨a3, j, c3⟩⟩)) rfl <| rW (Bv.cs (⟨(Wi.nV st), ⟨a1, i, c1⟩, ⟨a3, j, c3⟩⟩)) (Bv.cs (⟨(Wi.nV st), ⟨a1, i, c1⟩, ⟨a3, j, c3⟩⟩)) HF 0 0 (v := .agg (Bv.cells (⟨(Wi.nV st), ⟨a1, i, c1⟩, ⟨a3, j, c3⟩⟩))) rfl S43 (Bv.oneL _) (Bv.cs bvZ) rfl fun w61 HF => ?_
        try simp only [pS]
        have HF : Hid (Kr (lsSrc (lsSrc (inSrc i0 g ba bc bs) 92 4 w.heap.size a1 i c1 (enL (ensL i (Wi.nS (Wi.nS st))))) 94 7 w.heap.size a3 j c3 (laL (lasL j (Wi.nS (ensS i (Wi.nS (Wi.nS st))))))) w w61 (lasS j (Wi.nS (ensS i (Wi.nS (Wi.nS st)))), false) [(g1, 43, Bv.cells (⟨(Wi.nV st), ⟨a1, i, c1⟩, ⟨a3, j, c3⟩⟩)), (g3, 43, Bv.cells (⟨(Wi.nV st), ⟨a1, i, c1⟩, ⟨a3, j, c3⟩⟩))]) := HF
        refine WL.nil <| ?_
        try simp only [pS]
        go_wp2
        rw [HC.out]
        refine bodyPost_ret (results_row1 (by rfl) _ _ g1 (Bv.cells (⟨(Wi.nV st), ⟨a1, i, c1⟩, ⟨a3, j, c3⟩⟩)) (by rfl) (run_load_part (cs := Bv.cs (⟨(Wi.nV st), ⟨a1, i, c1⟩, ⟨a3, j, c3⟩⟩)) (sub := Bv.cs (⟨(Wi.nV st), ⟨a1, i, c1⟩, ⟨a3, j, c3⟩⟩)) (HF.out.fq.box 0 _ _ _ rfl) (Part.all _) U43 rfl S43)) rfl ?_
        exact ⟨N, M, i, j, a1, c1, a3, c3, hN, hM, hii, hij, hzi, hzj, fun h => absurd h hlti, fun h => absurd h hltj, rfl, HF.out.st.1.1, HF.out.fq.kept, HF.out.st.1.2.1, HF.out.st.2.1⟩
end
end Go.Proofs.YtgdnofacgfjaeaaGreat.Md
