import Derived.Test.YtgdnofacgfjaeaaGreatPa
namespace Go.Proofs.YtgdnofacgfjaeaaGreat.Md
open Go.RowKit
set_option linter.unusedVariables false
set_option linter.unusedSimpArgs false
theorem onl (m : Mg) (fs : List Int) : onlyP m fs = ((eqS m.st spZ || hasB fs 0) && ((eqS m.hd spZ || hasB fs 1) && ((((m.bl.l : Nat) : Int) == 0 || hasB fs 2) && ((eqC m.c cZ || hasB fs 3) && ((empK m.bk || hasB fs 4) && ((((m.cm.l : Nat) : Int) == 0 || hasB fs 5) && (!m.mo || hasB fs 6))))))) := by
  have e : List.range 7 = [0, 1, 2, 3, 4, 5, 6] := by decide
  unfold onlyP
  rw [e]
  simp only [List.all_cons, List.all_nil, Bool.and_true]
  rfl
theorem eqSz : eqS spZ spZ = true := rfl
theorem eqCz : eqC cZ cZ = true := eqC_refl _
theorem slz : (((slZ.l : Nat) : Int) == 0) = true := rfl
theorem row_eqs (B f : Int) (x : Sl) (cs : List Cm) : rowsP B f x cs = (bif decide (64 < ((x.l : Nat) : Int)) || decide (1048577 < f + ((x.l : Nat) : Int)) then false else rowR B cs) := by
  unfold rowsP; rw [row_eq]
theorem mq1 {B rm bu : Int} {zs : List Int} {m : Mg} {bs : List Int} {es : List En} {ls : List La} {cs : List Cm} (hk : m.k = 1) (he : es.length = m.bk.e.l) (hl : ls.length = m.bk.l.l) (hr : 0 ≤ rm) : msgP B rm bu zs m bs es ls cs = msgR B rm bu zs m bs es ls cs := by
  have hf : fieldsK 1 = [] := by decide
  have h0 : hasB [] 0 = false := by decide
  have h1 : hasB [] 1 = false := by decide
  have h2 : hasB [] 2 = false := by decide
  have h3 : hasB [] 3 = false := by decide
  have h4 : hasB [] 4 = false := by decide
  have h5 : hasB [] 5 = false := by decide
  have h6 : hasB [] 6 = false := by decide
  have hon := one_none m.st
  simp only [msgP, msgR, endsP, keyP, fldsP, haveP, asksR, ansR, btwR, bareR, cntB, hk, Int.reduceBEq, bsq, hf, onl, h0, h1, h2, h3, h4, h5, h6, cmd_eq, held_eq, bkt_eq hr he hl, pos_eq, row_eqs, beq_self_eq_true, eqSz, eqCz, slz]
  generalize (keyR bu m.ky) = x0
  generalize (cliB m.fr) = x1
  generalize (srvB zs m.too) = x4
  generalize (wn m.op 1 1099511627776) = x5
  generalize (wn m.rd 1 1099511627776) = x6
  generalize (m.ky.k == 1) = y1
  generalize (eqS m.hd spZ) = a1
  generalize (eqC m.c cZ) = a3
  generalize (m.mo) = a6
  generalize (empK m.bk) = a4
  generalize (eqS m.st spZ) = a0
  generalize (((m.bl.l : Nat) : Int) == 0) = a2
  generalize (((m.cm.l : Nat) : Int) == 0) = a5
  cases x0 <;> (try simp only [bsq]) <;> cases x1 <;> (try simp only [bsq]) <;> cases x4 <;> (try simp only [bsq]) <;> cases x5 <;> (try simp only [bsq]) <;> cases x6 <;> (try simp only [bsq]) <;> cases y1 <;> (try simp only [bsq]) <;> cases a1 <;> (try simp only [bsq]) <;> cases a3 <;> (try simp only [bsq]) <;> cases a6 <;> (try simp only [bsq]) <;> cases a4 <;> (try simp only [bsq]) <;> cases a0 <;> (try simp only [bsq]) <;> cases a2 <;> (try simp only [bsq]) <;> cases a5 <;> (try simp only [bsq])
theorem mq2 {B rm bu : Int} {zs : List Int} {m : Mg} {bs : List Int} {es : List En} {ls : List La} {cs : List Cm} (hk : m.k = 2) (he : es.length = m.bk.e.l) (hl : ls.length = m.bk.l.l) (hr : 0 ≤ rm) : msgP B rm bu zs m bs es ls cs = msgR B rm bu zs m bs es ls cs := by
  have hf : fieldsK 2 = [0, 2] := by decide
  have h0 : hasB [0, 2] 0 = true := by decide
  have h1 : hasB [0, 2] 1 = false := by decide
  have h2 : hasB [0, 2] 2 = true := by decide
  have h3 : hasB [0, 2] 3 = false := by decide
  have h4 : hasB [0, 2] 4 = false := by decide
  have h5 : hasB [0, 2] 5 = false := by decide
  have h6 : hasB [0, 2] 6 = false := by decide
  have hon := one_none m.st
  simp only [msgP, msgR, endsP, keyP, fldsP, haveP, asksR, ansR, btwR, bareR, cntB, hk, Int.reduceBEq, bsq, hf, onl, h0, h1, h2, h3, h4, h5, h6, cmd_eq, held_eq, bkt_eq hr he hl, pos_eq, row_eqs, beq_self_eq_true, eqSz, eqCz, slz]
  generalize (keyR bu m.ky) = x0
  generalize (cliB m.fr) = x1
  generalize (srvB zs m.too) = x4
  generalize (wn m.op 1 1099511627776) = x5
  generalize (wn m.rd 1 1099511627776) = x6
  generalize (m.ky.k == 1) = y1
  generalize (eqS m.hd spZ) = a1
  generalize (eqC m.c cZ) = a3
  generalize (m.mo) = a6
  generalize (empK m.bk) = a4
  generalize (((m.cm.l : Nat) : Int) == 0) = a5
  generalize (oneS m.st) = o0
  generalize (((m.bl.l : Nat) : Int) == B) = l0
  cases x0 <;> (try simp only [bsq]) <;> cases x1 <;> (try simp only [bsq]) <;> cases x4 <;> (try simp only [bsq]) <;> cases x5 <;> (try simp only [bsq]) <;> cases x6 <;> (try simp only [bsq]) <;> cases y1 <;> (try simp only [bsq]) <;> cases a1 <;> (try simp only [bsq]) <;> cases a3 <;> (try simp only [bsq]) <;> cases a6 <;> (try simp only [bsq]) <;> cases a4 <;> (try simp only [bsq]) <;> cases a5 <;> (try simp only [bsq]) <;> cases o0 <;> (try simp only [bsq]) <;> cases l0 <;> (try simp only [bsq])
theorem mq3 {B rm bu : Int} {zs : List Int} {m : Mg} {bs : List Int} {es : List En} {ls : List La} {cs : List Cm} (hk : m.k = 3) (he : es.length = m.bk.e.l) (hl : ls.length = m.bk.l.l) (hr : 0 ≤ rm) : msgP B rm bu zs m bs es ls cs = msgR B rm bu zs m bs es ls cs := by
  have hf : fieldsK 3 = [0] := by decide
  have h0 : hasB [0] 0 = true := by decide
  have h1 : hasB [0] 1 = false := by decide
  have h2 : hasB [0] 2 = false := by decide
  have h3 : hasB [0] 3 = false := by decide
  have h4 : hasB [0] 4 = false := by decide
  have h5 : hasB [0] 5 = false := by decide
  have h6 : hasB [0] 6 = false := by decide
  have hon := one_none m.st
  simp only [msgP, msgR, endsP, keyP, fldsP, haveP, asksR, ansR, btwR, bareR, cntB, hk, Int.reduceBEq, bsq, hf, onl, h0, h1, h2, h3, h4, h5, h6, cmd_eq, held_eq, bkt_eq hr he hl, pos_eq, row_eqs, beq_self_eq_true, eqSz, eqCz, slz]
  generalize (keyR bu m.ky) = x0
  generalize (cliB m.fr) = x1
  generalize (srvB zs m.too) = x4
  generalize (wn m.op 1 1099511627776) = x5
  generalize (wn m.rd 1 1099511627776) = x6
  generalize (m.ky.k == 3) = y3
  generalize (eqS m.hd spZ) = a1
  generalize (eqC m.c cZ) = a3
  generalize (m.mo) = a6
  generalize (empK m.bk) = a4
  generalize (((m.bl.l : Nat) : Int) == 0) = a2
  generalize (((m.cm.l : Nat) : Int) == 0) = a5
  generalize (oneS m.st) = o0
  cases x0 <;> (try simp only [bsq]) <;> cases x1 <;> (try simp only [bsq]) <;> cases x4 <;> (try simp only [bsq]) <;> cases x5 <;> (try simp only [bsq]) <;> cases x6 <;> (try simp only [bsq]) <;> cases y3 <;> (try simp only [bsq]) <;> cases a1 <;> (try simp only [bsq]) <;> cases a3 <;> (try simp only [bsq]) <;> cases a6 <;> (try simp only [bsq]) <;> cases a4 <;> (try simp only [bsq]) <;> cases a2 <;> (try simp only [bsq]) <;> cases a5 <;> (try simp only [bsq]) <;> cases o0 <;> (try simp only [bsq])
theorem mq4 {B rm bu : Int} {zs : List Int} {m : Mg} {bs : List Int} {es : List En} {ls : List La} {cs : List Cm} (hk : m.k = 4) (he : es.length = m.bk.e.l) (hl : ls.length = m.bk.l.l) (hr : 0 ≤ rm) : msgP B rm bu zs m bs es ls cs = msgR B rm bu zs m bs es ls cs := by
  have hf : fieldsK 4 = [0, 3] := by decide
  have h0 : hasB [0, 3] 0 = true := by decide
  have h1 : hasB [0, 3] 1 = false := by decide
  have h2 : hasB [0, 3] 2 = false := by decide
  have h3 : hasB [0, 3] 3 = true := by decide
  have h4 : hasB [0, 3] 4 = false := by decide
  have h5 : hasB [0, 3] 5 = false := by decide
  have h6 : hasB [0, 3] 6 = false := by decide
  have hon := one_none m.st
  simp only [msgP, msgR, endsP, keyP, fldsP, haveP, asksR, ansR, btwR, bareR, cntB, hk, Int.reduceBEq, bsq, hf, onl, h0, h1, h2, h3, h4, h5, h6, cmd_eq, held_eq, bkt_eq hr he hl, pos_eq, row_eqs, beq_self_eq_true, eqSz, eqCz, slz]
  generalize (keyR bu m.ky) = x0
  generalize (cliB m.fr) = x1
  generalize (srvB zs m.too) = x4
  generalize (wn m.op 1 1099511627776) = x5
  generalize (wn m.rd 1 1099511627776) = x6
  generalize (m.ky.k == 3) = y3
  generalize (eqS m.hd spZ) = a1
  generalize (m.mo) = a6
  generalize (empK m.bk) = a4
  generalize (((m.bl.l : Nat) : Int) == 0) = a2
  generalize (((m.cm.l : Nat) : Int) == 0) = a5
  generalize (oneS m.st) = o0
  generalize (cmdR B m.c) = c0
  cases x0 <;> (try simp only [bsq]) <;> cases x1 <;> (try simp only [bsq]) <;> cases x4 <;> (try simp only [bsq]) <;> cases x5 <;> (try simp only [bsq]) <;> cases x6 <;> (try simp only [bsq]) <;> cases y3 <;> (try simp only [bsq]) <;> cases a1 <;> (try simp only [bsq]) <;> cases a6 <;> (try simp only [bsq]) <;> cases a4 <;> (try simp only [bsq]) <;> cases a2 <;> (try simp only [bsq]) <;> cases a5 <;> (try simp only [bsq]) <;> cases o0 <;> (try simp only [bsq]) <;> cases c0 <;> (try simp only [bsq])
theorem mq5 {B rm bu : Int} {zs : List Int} {m : Mg} {bs : List Int} {es : List En} {ls : List La} {cs : List Cm} (hk : m.k = 5) (he : es.length = m.bk.e.l) (hl : ls.length = m.bk.l.l) (hr : 0 ≤ rm) : msgP B rm bu zs m bs es ls cs = msgR B rm bu zs m bs es ls cs := by
  have hf : fieldsK 5 = [3] := by decide
  have h0 : hasB [3] 0 = false := by decide
  have h1 : hasB [3] 1 = false := by decide
  have h2 : hasB [3] 2 = false := by decide
  have h3 : hasB [3] 3 = true := by decide
  have h4 : hasB [3] 4 = false := by decide
  have h5 : hasB [3] 5 = false := by decide
  have h6 : hasB [3] 6 = false := by decide
  have hon := one_none m.st
  simp only [msgP, msgR, endsP, keyP, fldsP, haveP, asksR, ansR, btwR, bareR, cntB, hk, Int.reduceBEq, bsq, hf, onl, h0, h1, h2, h3, h4, h5, h6, cmd_eq, held_eq, bkt_eq hr he hl, pos_eq, row_eqs, beq_self_eq_true, eqSz, eqCz, slz]
  generalize (keyR bu m.ky) = x0
  generalize (cliB m.fr) = x1
  generalize (srvB zs m.too) = x4
  generalize (wn m.op 1 1099511627776) = x5
  generalize (wn m.rd 1 1099511627776) = x6
  generalize (m.ky.k == 3) = y3
  generalize (eqS m.hd spZ) = a1
  generalize (m.mo) = a6
  generalize (empK m.bk) = a4
  generalize (eqS m.st spZ) = a0
  generalize (((m.bl.l : Nat) : Int) == 0) = a2
  generalize (((m.cm.l : Nat) : Int) == 0) = a5
  generalize (cmdR B m.c) = c0
  cases x0 <;> (try simp only [bsq]) <;> cases x1 <;> (try simp only [bsq]) <;> cases x4 <;> (try simp only [bsq]) <;> cases x5 <;> (try simp only [bsq]) <;> cases x6 <;> (try simp only [bsq]) <;> cases y3 <;> (try simp only [bsq]) <;> cases a1 <;> (try simp only [bsq]) <;> cases a6 <;> (try simp only [bsq]) <;> cases a4 <;> (try simp only [bsq]) <;> cases a0 <;> (try simp only [bsq]) <;> cases a2 <;> (try simp only [bsq]) <;> cases a5 <;> (try simp only [bsq]) <;> cases c0 <;> (try simp only [bsq])
theorem mq11 {B rm bu : Int} {zs : List Int} {m : Mg} {bs : List Int} {es : List En} {ls : List La} {cs : List Cm} (hk : m.k = 11) (he : es.length = m.bk.e.l) (hl : ls.length = m.bk.l.l) (hr : 0 ≤ rm) : msgP B rm bu zs m bs es ls cs = msgR B rm bu zs m bs es ls cs := by
  have hf : fieldsK 11 = [0, 2] := by decide
  have h0 : hasB [0, 2] 0 = true := by decide
  have h1 : hasB [0, 2] 1 = false := by decide
  have h2 : hasB [0, 2] 2 = true := by decide
  have h3 : hasB [0, 2] 3 = false := by decide
  have h4 : hasB [0, 2] 4 = false := by decide
  have h5 : hasB [0, 2] 5 = false := by decide
  have h6 : hasB [0, 2] 6 = false := by decide
  have hon := one_none m.st
  simp only [msgP, msgR, endsP, keyP, fldsP, haveP, asksR, ansR, btwR, bareR, cntB, hk, Int.reduceBEq, bsq, hf, onl, h0, h1, h2, h3, h4, h5, h6, cmd_eq, held_eq, bkt_eq hr he hl, pos_eq, row_eqs, beq_self_eq_true, eqSz, eqCz, slz]
  generalize (keyR bu m.ky) = x0
  generalize (cliB m.too) = x2
  generalize (srvB zs m.fr) = x3
  generalize (wn m.op 1 1099511627776) = x5
  generalize (wn m.rd 1 1099511627776) = x6
  generalize (m.ky.k == 1) = y1
  generalize (eqS m.hd spZ) = a1
  generalize (eqC m.c cZ) = a3
  generalize (m.mo) = a6
  generalize (empK m.bk) = a4
  generalize (((m.cm.l : Nat) : Int) == 0) = a5
  generalize (blkB B ⟨m.st, m.bl⟩ bs) = b0
  cases x0 <;> (try simp only [bsq]) <;> cases x2 <;> (try simp only [bsq]) <;> cases x3 <;> (try simp only [bsq]) <;> cases x5 <;> (try simp only [bsq]) <;> cases x6 <;> (try simp only [bsq]) <;> cases y1 <;> (try simp only [bsq]) <;> cases a1 <;> (try simp only [bsq]) <;> cases a3 <;> (try simp only [bsq]) <;> cases a6 <;> (try simp only [bsq]) <;> cases a4 <;> (try simp only [bsq]) <;> cases a5 <;> (try simp only [bsq]) <;> cases b0 <;> (try simp only [bsq])
theorem mq12 {B rm bu : Int} {zs : List Int} {m : Mg} {bs : List Int} {es : List En} {ls : List La} {cs : List Cm} (hk : m.k = 12) (he : es.length = m.bk.e.l) (hl : ls.length = m.bk.l.l) (hr : 0 ≤ rm) : msgP B rm bu zs m bs es ls cs = msgR B rm bu zs m bs es ls cs := by
  have hf : fieldsK 12 = [] := by decide
  have h0 : hasB [] 0 = false := by decide
  have h1 : hasB [] 1 = false := by decide
  have h2 : hasB [] 2 = false := by decide
  have h3 : hasB [] 3 = false := by decide
  have h4 : hasB [] 4 = false := by decide
  have h5 : hasB [] 5 = false := by decide
  have h6 : hasB [] 6 = false := by decide
  have hon := one_none m.st
  simp only [msgP, msgR, endsP, keyP, fldsP, haveP, asksR, ansR, btwR, bareR, cntB, hk, Int.reduceBEq, bsq, hf, onl, h0, h1, h2, h3, h4, h5, h6, cmd_eq, held_eq, bkt_eq hr he hl, pos_eq, row_eqs, beq_self_eq_true, eqSz, eqCz, slz]
  generalize (keyR bu m.ky) = x0
  generalize (cliB m.too) = x2
  generalize (srvB zs m.fr) = x3
  generalize (wn m.op 1 1099511627776) = x5
  generalize (wn m.rd 1 1099511627776) = x6
  generalize (m.ky.k == 1) = y1
  generalize (eqS m.hd spZ) = a1
  generalize (eqC m.c cZ) = a3
  generalize (m.mo) = a6
  generalize (empK m.bk) = a4
  generalize (eqS m.st spZ) = a0
  generalize (((m.bl.l : Nat) : Int) == 0) = a2
  generalize (((m.cm.l : Nat) : Int) == 0) = a5
  cases x0 <;> (try simp only [bsq]) <;> cases x2 <;> (try simp only [bsq]) <;> cases x3 <;> (try simp only [bsq]) <;> cases x5 <;> (try simp only [bsq]) <;> cases x6 <;> (try simp only [bsq]) <;> cases y1 <;> (try simp only [bsq]) <;> cases a1 <;> (try simp only [bsq]) <;> cases a3 <;> (try simp only [bsq]) <;> cases a6 <;> (try simp only [bsq]) <;> cases a4 <;> (try simp only [bsq]) <;> cases a0 <;> (try simp only [bsq]) <;> cases a2 <;> (try simp only [bsq]) <;> cases a5 <;> (try simp only [bsq])
theorem mq13 {B rm bu : Int} {zs : List Int} {m : Mg} {bs : List Int} {es : List En} {ls : List La} {cs : List Cm} (hk : m.k = 13) (he : es.length = m.bk.e.l) (hl : ls.length = m.bk.l.l) (hr : 0 ≤ rm) : msgP B rm bu zs m bs es ls cs = msgR B rm bu zs m bs es ls cs := by
  have hf : fieldsK 13 = [0, 1, 3] := by decide
  have h0 : hasB [0, 1, 3] 0 = true := by decide
  have h1 : hasB [0, 1, 3] 1 = true := by decide
  have h2 : hasB [0, 1, 3] 2 = false := by decide
  have h3 : hasB [0, 1, 3] 3 = true := by decide
  have h4 : hasB [0, 1, 3] 4 = false := by decide
  have h5 : hasB [0, 1, 3] 5 = false := by decide
  have h6 : hasB [0, 1, 3] 6 = false := by decide
  have hon := one_none m.st
  simp only [msgP, msgR, endsP, keyP, fldsP, haveP, asksR, ansR, btwR, bareR, cntB, hk, Int.reduceBEq, bsq, hf, onl, h0, h1, h2, h3, h4, h5, h6, cmd_eq, held_eq, bkt_eq hr he hl, pos_eq, row_eqs, beq_self_eq_true, eqSz, eqCz, slz]
  generalize (keyR bu m.ky) = x0
  generalize (cliB m.too) = x2
  generalize (srvB zs m.fr) = x3
  generalize (wn m.op 1 1099511627776) = x5
  generalize (wn m.rd 1 1099511627776) = x6
  generalize (m.ky.k == 3) = y3
  generalize (eqS m.hd spZ) = a1
  generalize (eqC m.c cZ) = a3
  generalize (m.mo) = a6
  generalize (empK m.bk) = a4
  generalize (((m.bl.l : Nat) : Int) == 0) = a2
  generalize (((m.cm.l : Nat) : Int) == 0) = a5
  generalize (oneS m.st) = o0
  generalize (oneS m.hd) = o1
  generalize (abvS m.hd m.st) = o2
  generalize (cmdR B m.c) = c0
  cases x0 <;> (try simp only [bsq]) <;> cases x2 <;> (try simp only [bsq]) <;> cases x3 <;> (try simp only [bsq]) <;> cases x5 <;> (try simp only [bsq]) <;> cases x6 <;> (try simp only [bsq]) <;> cases y3 <;> (try simp only [bsq]) <;> cases a1 <;> (try simp only [bsq]) <;> cases a3 <;> (try simp only [bsq]) <;> cases a6 <;> (try simp only [bsq]) <;> cases a4 <;> (try simp only [bsq]) <;> cases a2 <;> (try simp only [bsq]) <;> cases a5 <;> (try simp only [bsq]) <;> cases o0 <;> (try simp only [bsq]) <;> cases o1 <;> (try simp only [bsq]) <;> cases o2 <;> (try simp only [bsq]) <;> cases c0 <;> (try simp only [bsq])
theorem mq14 {B rm bu : Int} {zs : List Int} {m : Mg} {bs : List Int} {es : List En} {ls : List La} {cs : List Cm} (hk : m.k = 14) (he : es.length = m.bk.e.l) (hl : ls.length = m.bk.l.l) (hr : 0 ≤ rm) : msgP B rm bu zs m bs es ls cs = msgR B rm bu zs m bs es ls cs := by
  have hf : fieldsK 14 = [0] := by decide
  have h0 : hasB [0] 0 = true := by decide
  have h1 : hasB [0] 1 = false := by decide
  have h2 : hasB [0] 2 = false := by decide
  have h3 : hasB [0] 3 = false := by decide
  have h4 : hasB [0] 4 = false := by decide
  have h5 : hasB [0] 5 = false := by decide
  have h6 : hasB [0] 6 = false := by decide
  have hon := one_none m.st
  simp only [msgP, msgR, endsP, keyP, fldsP, haveP, asksR, ansR, btwR, bareR, cntB, hk, Int.reduceBEq, bsq, hf, onl, h0, h1, h2, h3, h4, h5, h6, cmd_eq, held_eq, bkt_eq hr he hl, pos_eq, row_eqs, beq_self_eq_true, eqSz, eqCz, slz]
  generalize (keyR bu m.ky) = x0
  generalize (cliB m.too) = x2
  generalize (srvB zs m.fr) = x3
  generalize (wn m.op 1 1099511627776) = x5
  generalize (wn m.rd 1 1099511627776) = x6
  generalize (m.ky.k == 3) = y3
  generalize (eqS m.hd spZ) = a1
  generalize (eqC m.c cZ) = a3
  generalize (m.mo) = a6
  generalize (empK m.bk) = a4
  generalize (((m.bl.l : Nat) : Int) == 0) = a2
  generalize (((m.cm.l : Nat) : Int) == 0) = a5
  generalize (oneS m.st) = o0
  cases x0 <;> (try simp only [bsq]) <;> cases x2 <;> (try simp only [bsq]) <;> cases x3 <;> (try simp only [bsq]) <;> cases x5 <;> (try simp only [bsq]) <;> cases x6 <;> (try simp only [bsq]) <;> cases y3 <;> (try simp only [bsq]) <;> cases a1 <;> (try simp only [bsq]) <;> cases a3 <;> (try simp only [bsq]) <;> cases a6 <;> (try simp only [bsq]) <;> cases a4 <;> (try simp only [bsq]) <;> cases a2 <;> (try simp only [bsq]) <;> cases a5 <;> (try simp only [bsq]) <;> cases o0 <;> (try simp only [bsq])
theorem mq15 {B rm bu : Int} {zs : List Int} {m : Mg} {bs : List Int} {es : List En} {ls : List La} {cs : List Cm} (hk : m.k = 15) (he : es.length = m.bk.e.l) (hl : ls.length = m.bk.l.l) (hr : 0 ≤ rm) : msgP B rm bu zs m bs es ls cs = msgR B rm bu zs m bs es ls cs := by
  have hf : fieldsK 15 = [0] := by decide
  have h0 : hasB [0] 0 = true := by decide
  have h1 : hasB [0] 1 = false := by decide
  have h2 : hasB [0] 2 = false := by decide
  have h3 : hasB [0] 3 = false := by decide
  have h4 : hasB [0] 4 = false := by decide
  have h5 : hasB [0] 5 = false := by decide
  have h6 : hasB [0] 6 = false := by decide
  have hon := one_none m.st
  simp only [msgP, msgR, endsP, keyP, fldsP, haveP, asksR, ansR, btwR, bareR, cntB, hk, Int.reduceBEq, bsq, hf, onl, h0, h1, h2, h3, h4, h5, h6, cmd_eq, held_eq, bkt_eq hr he hl, pos_eq, row_eqs, beq_self_eq_true, eqSz, eqCz, slz]
  generalize (keyR bu m.ky) = x0
  generalize (cliB m.too) = x2
  generalize (srvB zs m.fr) = x3
  generalize (wn m.op 1 1099511627776) = x5
  generalize (wn m.rd 1 1099511627776) = x6
  generalize (m.ky.k == 3) = y3
  generalize (eqS m.hd spZ) = a1
  generalize (eqC m.c cZ) = a3
  generalize (m.mo) = a6
  generalize (empK m.bk) = a4
  generalize (((m.bl.l : Nat) : Int) == 0) = a2
  generalize (((m.cm.l : Nat) : Int) == 0) = a5
  generalize (oneS m.st) = o0
  cases x0 <;> (try simp only [bsq]) <;> cases x2 <;> (try simp only [bsq]) <;> cases x3 <;> (try simp only [bsq]) <;> cases x5 <;> (try simp only [bsq]) <;> cases x6 <;> (try simp only [bsq]) <;> cases y3 <;> (try simp only [bsq]) <;> cases a1 <;> (try simp only [bsq]) <;> cases a3 <;> (try simp only [bsq]) <;> cases a6 <;> (try simp only [bsq]) <;> cases a4 <;> (try simp only [bsq]) <;> cases a2 <;> (try simp only [bsq]) <;> cases a5 <;> (try simp only [bsq]) <;> cases o0 <;> (try simp only [bsq])
theorem mq16 {B rm bu : Int} {zs : List Int} {m : Mg} {bs : List Int} {es : List En} {ls : List La} {cs : List Cm} (hk : m.k = 16) (he : es.length = m.bk.e.l) (hl : ls.length = m.bk.l.l) (hr : 0 ≤ rm) : msgP B rm bu zs m bs es ls cs = msgR B rm bu zs m bs es ls cs := by
  have hf : fieldsK 16 = [3] := by decide
  have h0 : hasB [3] 0 = false := by decide
  have h1 : hasB [3] 1 = false := by decide
  have h2 : hasB [3] 2 = false := by decide
  have h3 : hasB [3] 3 = true := by decide
  have h4 : hasB [3] 4 = false := by decide
  have h5 : hasB [3] 5 = false := by decide
  have h6 : hasB [3] 6 = false := by decide
  have hon := one_none m.st
  simp only [msgP, msgR, endsP, keyP, fldsP, haveP, asksR, ansR, btwR, bareR, cntB, hk, Int.reduceBEq, bsq, hf, onl, h0, h1, h2, h3, h4, h5, h6, cmd_eq, held_eq, bkt_eq hr he hl, pos_eq, row_eqs, beq_self_eq_true, eqSz, eqCz, slz]
  generalize (keyR bu m.ky) = x0
  generalize (cliB m.too) = x2
  generalize (srvB zs m.fr) = x3
  generalize (wn m.op 1 1099511627776) = x5
  generalize (wn m.rd 1 1099511627776) = x6
  generalize (m.ky.k == 3) = y3
  generalize (eqS m.hd spZ) = a1
  generalize (m.mo) = a6
  generalize (empK m.bk) = a4
  generalize (eqS m.st spZ) = a0
  generalize (((m.bl.l : Nat) : Int) == 0) = a2
  generalize (((m.cm.l : Nat) : Int) == 0) = a5
  generalize (cmdR B m.c) = c0
  cases x0 <;> (try simp only [bsq]) <;> cases x2 <;> (try simp only [bsq]) <;> cases x3 <;> (try simp only [bsq]) <;> cases x5 <;> (try simp only [bsq]) <;> cases x6 <;> (try simp only [bsq]) <;> cases y3 <;> (try simp only [bsq]) <;> cases a1 <;> (try simp only [bsq]) <;> cases a6 <;> (try simp only [bsq]) <;> cases a4 <;> (try simp only [bsq]) <;> cases a0 <;> (try simp only [bsq]) <;> cases a2 <;> (try simp only [bsq]) <;> cases a5 <;> (try simp only [bsq]) <;> cases c0 <;> (try simp only [bsq])
theorem mq17 {B rm bu : Int} {zs : List Int} {m : Mg} {bs : List Int} {es : List En} {ls : List La} {cs : List Cm} (hk : m.k = 17) (he : es.length = m.bk.e.l) (hl : ls.length = m.bk.l.l) (hr : 0 ≤ rm) : msgP B rm bu zs m bs es ls cs = msgR B rm bu zs m bs es ls cs := by
  have hf : fieldsK 17 = [4] := by decide
  have h0 : hasB [4] 0 = false := by decide
  have h1 : hasB [4] 1 = false := by decide
  have h2 : hasB [4] 2 = false := by decide
  have h3 : hasB [4] 3 = false := by decide
  have h4 : hasB [4] 4 = true := by decide
  have h5 : hasB [4] 5 = false := by decide
  have h6 : hasB [4] 6 = false := by decide
  have hon := one_none m.st
  simp only [msgP, msgR, endsP, keyP, fldsP, haveP, asksR, ansR, btwR, bareR, cntB, hk, Int.reduceBEq, bsq, hf, onl, h0, h1, h2, h3, h4, h5, h6, cmd_eq, held_eq, bkt_eq hr he hl, pos_eq, row_eqs, beq_self_eq_true, eqSz, eqCz, slz]
  generalize (keyR bu m.ky) = x0
  generalize (cliB m.too) = x2
  generalize (srvB zs m.fr) = x3
  generalize (wn m.op 1 1099511627776) = x5
  generalize (wn m.rd 1 1099511627776) = x6
  generalize (m.ky.k == 3) = y3
  generalize (eqS m.hd spZ) = a1
  generalize (eqC m.c cZ) = a3
  generalize (m.mo) = a6
  generalize (eqS m.st spZ) = a0
  generalize (((m.bl.l : Nat) : Int) == 0) = a2
  generalize (((m.cm.l : Nat) : Int) == 0) = a5
  generalize (bktR B rm m.bk es ls) = b1
  generalize (decide (m.ky.b ≤ m.bk.up)) = b2
  cases x0 <;> (try simp only [bsq]) <;> cases x2 <;> (try simp only [bsq]) <;> cases x3 <;> (try simp only [bsq]) <;> cases x5 <;> (try simp only [bsq]) <;> cases x6 <;> (try simp only [bsq]) <;> cases y3 <;> (try simp only [bsq]) <;> cases a1 <;> (try simp only [bsq]) <;> cases a3 <;> (try simp only [bsq]) <;> cases a6 <;> (try simp only [bsq]) <;> cases a0 <;> (try simp only [bsq]) <;> cases a2 <;> (try simp only [bsq]) <;> cases a5 <;> (try simp only [bsq]) <;> cases b1 <;> (try simp only [bsq]) <;> cases b2 <;> (try simp only [bsq])
theorem mq21 {B rm bu : Int} {zs : List Int} {m : Mg} {bs : List Int} {es : List En} {ls : List La} {cs : List Cm} (hk : m.k = 21) (he : es.length = m.bk.e.l) (hl : ls.length = m.bk.l.l) (hr : 0 ≤ rm) : msgP B rm bu zs m bs es ls cs = msgR B rm bu zs m bs es ls cs := by
  have hf : fieldsK 21 = [0] := by decide
  have h0 : hasB [0] 0 = true := by decide
  have h1 : hasB [0] 1 = false := by decide
  have h2 : hasB [0] 2 = false := by decide
  have h3 : hasB [0] 3 = false := by decide
  have h4 : hasB [0] 4 = false := by decide
  have h5 : hasB [0] 5 = false := by decide
  have h6 : hasB [0] 6 = false := by decide
  have hon := one_none m.st
  simp only [msgP, msgR, endsP, keyP, fldsP, haveP, asksR, ansR, btwR, bareR, cntB, hk, Int.reduceBEq, bsq, hf, onl, h0, h1, h2, h3, h4, h5, h6, cmd_eq, held_eq, bkt_eq hr he hl, pos_eq, row_eqs, beq_self_eq_true, eqSz, eqCz, slz]
  generalize (keyR bu m.ky) = x0
  generalize (srvB zs m.fr) = x3
  generalize (srvB zs m.too) = x4
  generalize (eqA m.fr m.too) = x7
  generalize (m.op == 0) = x8
  generalize (m.rd == 0) = x9
  generalize (m.ky.k == 1) = y1
  generalize (m.ky.k == 2) = y2
  generalize (eqS m.hd spZ) = a1
  generalize (eqC m.c cZ) = a3
  generalize (m.mo) = a6
  generalize (empK m.bk) = a4
  generalize (eqS m.st spZ) = a0
  generalize (((m.bl.l : Nat) : Int) == 0) = a2
  generalize (((m.cm.l : Nat) : Int) == 0) = a5
  generalize (frmS m.st) = f0
  cases x0 <;> (try simp only [bsq]) <;> cases x3 <;> (try simp only [bsq]) <;> cases x4 <;> (try simp only [bsq]) <;> cases x7 <;> (try simp only [bsq]) <;> cases x8 <;> (try simp only [bsq]) <;> cases x9 <;> (try simp only [bsq]) <;> cases y1 <;> (try simp only [bsq]) <;> cases y2 <;> (try simp only [bsq]) <;> cases a1 <;> (try simp only [bsq]) <;> cases a3 <;> (try simp only [bsq]) <;> cases a6 <;> (try simp only [bsq]) <;> cases a4 <;> (try simp only [bsq]) <;> cases a0 <;> (try simp only [bsq]) <;> cases a2 <;> (try simp only [bsq]) <;> cases a5 <;> (try simp only [bsq]) <;> cases f0 <;> (try simp only [bsq])
theorem mq22 {B rm bu : Int} {zs : List Int} {m : Mg} {bs : List Int} {es : List En} {ls : List La} {cs : List Cm} (hk : m.k = 22) (he : es.length = m.bk.e.l) (hl : ls.length = m.bk.l.l) (hr : 0 ≤ rm) : msgP B rm bu zs m bs es ls cs = msgR B rm bu zs m bs es ls cs := by
  have hf : fieldsK 22 = [0, 2, 4, 5, 6] := by decide
  have h0 : hasB [0, 2, 4, 5, 6] 0 = true := by decide
  have h1 : hasB [0, 2, 4, 5, 6] 1 = false := by decide
  have h2 : hasB [0, 2, 4, 5, 6] 2 = true := by decide
  have h3 : hasB [0, 2, 4, 5, 6] 3 = false := by decide
  have h4 : hasB [0, 2, 4, 5, 6] 4 = true := by decide
  have h5 : hasB [0, 2, 4, 5, 6] 5 = true := by decide
  have h6 : hasB [0, 2, 4, 5, 6] 6 = true := by decide
  have u0 : hasB [] 0 = false := by decide
  have u1 : hasB [] 1 = false := by decide
  have u2 : hasB [] 2 = false := by decide
  have u3 : hasB [] 3 = false := by decide
  have u4 : hasB [] 4 = false := by decide
  have u5 : hasB [] 5 = false := by decide
  have u6 : hasB [] 6 = false := by decide
  have v0 : hasB [0, 2] 0 = true := by decide
  have v1 : hasB [0, 2] 1 = false := by decide
  have v2 : hasB [0, 2] 2 = true := by decide
  have v3 : hasB [0, 2] 3 = false := by decide
  have v4 : hasB [0, 2] 4 = false := by decide
  have v5 : hasB [0, 2] 5 = false := by decide
  have v6 : hasB [0, 2] 6 = false := by decide
  have s0 : hasB [4, 6] 0 = false := by decide
  have s1 : hasB [4, 6] 1 = false := by decide
  have s2 : hasB [4, 6] 2 = false := by decide
  have s3 : hasB [4, 6] 3 = false := by decide
  have s4 : hasB [4, 6] 4 = true := by decide
  have s5 : hasB [4, 6] 5 = false := by decide
  have s6 : hasB [4, 6] 6 = true := by decide
  have t0 : hasB [0, 5, 6] 0 = true := by decide
  have t1 : hasB [0, 5, 6] 1 = false := by decide
  have t2 : hasB [0, 5, 6] 2 = false := by decide
  have t3 : hasB [0, 5, 6] 3 = false := by decide
  have t4 : hasB [0, 5, 6] 4 = false := by decide
  have t5 : hasB [0, 5, 6] 5 = true := by decide
  have t6 : hasB [0, 5, 6] 6 = true := by decide
  have hon := one_none m.st
  simp only [msgP, msgR, endsP, keyP, fldsP, haveP, asksR, ansR, btwR, bareR, cntB, hk, Int.reduceBEq, bsq, hf, onl, h0, h1, h2, h3, h4, h5, h6, u0, u1, u2, u3, u4, u5, u6, v0, v1, v2, v3, v4, v5, v6, s0, s1, s2, s3, s4, s5, s6, t0, t1, t2, t3, t4, t5, t6, cmd_eq, held_eq, bkt_eq hr he hl, pos_eq, row_eqs, beq_self_eq_true, eqSz, eqCz, slz]
  generalize (keyR bu m.ky) = x0
  generalize (srvB zs m.fr) = x3
  generalize (srvB zs m.too) = x4
  generalize (eqA m.fr m.too) = x7
  generalize (m.op == 0) = x8
  generalize (m.rd == 0) = x9
  generalize (m.ky.k == 1) = y1
  generalize (m.ky.k == 2) = y2
  generalize (eqS m.hd spZ) = a1
  generalize (eqC m.c cZ) = a3
  generalize (m.mo) = a6
  generalize (empK m.bk) = a4
  generalize (eqS m.st spZ) = a0 at hon ⊢
  generalize (((m.bl.l : Nat) : Int) == 0) = a2
  generalize (((m.cm.l : Nat) : Int) == 0) = a5
  generalize (oneS m.st) = o0 at hon ⊢
  generalize (((m.bl.l : Nat) : Int) == B) = l0
  generalize (bktR B rm m.bk es ls) = b1
  generalize (frmS m.st) = f0
  generalize (decide (0 < m.bk.up)) = f1
  generalize (decide (64 < ((m.cm.l : Nat) : Int))) = f2
  generalize (decide (1048577 < m.st.n + ((m.cm.l : Nat) : Int))) = f3
  generalize (rowR B cs) = f4
  cases x0 <;> (try simp only [bsq]) <;> cases x3 <;> (try simp only [bsq]) <;> cases x4 <;> (try simp only [bsq]) <;> cases x7 <;> (try simp only [bsq]) <;> cases x8 <;> (try simp only [bsq]) <;> cases x9 <;> (try simp only [bsq]) <;> cases y1 <;> (try simp only [bsq]) <;> cases y2 <;> (try simp only [bsq]) <;> cases a1 <;> (try simp only [bsq]) <;> cases a3 <;> (try simp only [bsq]) <;> cases a6 <;> (try simp only [bsq]) <;> cases a4 <;> (try simp only [bsq]) <;> cases a0 <;> (try simp only [bsq]) <;> cases a2 <;> (try simp only [bsq]) <;> cases a5 <;> (try simp only [bsq]) <;> cases o0 <;> (try simp only [bsq]) <;> cases l0 <;> (try simp only [bsq]) <;> cases b1 <;> (try simp only [bsq]) <;> cases f0 <;> (try simp only [bsq]) <;> cases f1 <;> (try simp only [bsq]) <;> cases f2 <;> (try simp only [bsq]) <;> cases f3 <;> (try simp only [bsq]) <;> cases f4 <;> (try simp only [bsq]) <;> (try cases hon)
theorem msg_eq {B rm bu : Int} {zs : List Int} {m : Mg} {bs : List Int} {es : List En} {ls : List La} {cs : List Cm} (he : es.length = m.bk.e.l) (hl : ls.length = m.bk.l.l) (hr : 0 ≤ rm) : msgP B rm bu zs m bs es ls cs = msgR B rm bu zs m bs es ls cs := by
  by_cases h : m.k = 1 ∨ m.k = 2 ∨ m.k = 3 ∨ m.k = 4 ∨ m.k = 5 ∨ m.k = 11 ∨ m.k = 12 ∨ m.k = 13 ∨ m.k = 14 ∨ m.k = 15 ∨ m.k = 16 ∨ m.k = 17 ∨ m.k = 21 ∨ m.k = 22
  · rcases h with h | h | h | h | h | h | h | h | h | h | h | h | h | h
    · exact mq1 h he hl hr
    · exact mq2 h he hl hr
    · exact mq3 h he hl hr
    · exact mq4 h he hl hr
    · exact mq5 h he hl hr
    · exact mq11 h he hl hr
    · exact mq12 h he hl hr
    · exact mq13 h he hl hr
    · exact mq14 h he hl hr
    · exact mq15 h he hl hr
    · exact mq16 h he hl hr
    · exact mq17 h he hl hr
    · exact mq21 h he hl hr
    · exact mq22 h he hl hr
  · have hn : ∀ n : Int, (n = 1 ∨ n = 2 ∨ n = 3 ∨ n = 4 ∨ n = 5 ∨ n = 11 ∨ n = 12 ∨ n = 13 ∨ n = 14 ∨ n = 15 ∨ n = 16 ∨ n = 17 ∨ n = 21 ∨ n = 22) → (m.k == n) = false := fun n hn => by rw [beq_eq_false_iff_ne]; intro e; apply h; rw [e]; exact hn
    have q : ∀ n : Int, (n = 1 ∨ n = 2 ∨ n = 3 ∨ n = 4 ∨ n = 5 ∨ n = 11 ∨ n = 12 ∨ n = 13 ∨ n = 14 ∨ n = 15 ∨ n = 16 ∨ n = 17 ∨ n = 21 ∨ n = 22) → (m.k == n) = false := hn
    simp only [msgP, msgR, endsP, q 1 (by decide), q 2 (by decide), q 3 (by decide), q 4 (by decide), q 5 (by decide), q 11 (by decide), q 12 (by decide), q 13 (by decide), q 14 (by decide), q 15 (by decide), q 16 (by decide), q 17 (by decide), q 21 (by decide), q 22 (by decide), bsq]
    cases keyR bu m.ky <;> simp only [bsq]
end Go.Proofs.YtgdnofacgfjaeaaGreat.Md
