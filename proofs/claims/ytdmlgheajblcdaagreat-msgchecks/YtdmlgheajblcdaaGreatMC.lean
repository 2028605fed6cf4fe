/- layer 10, numbers: what is encoded is decoded as it was -/
import Derived.Test.YtdmlgheajblcdaaGreatMB
import Derived.WalkKit
namespace Go.Proofs.YtdmlgheajblcdaaGreat
open Go.RowKit
set_option linter.unusedVariables false
set_option linter.unusedSimpArgs false
theorem inn_of {n a b : Int} (h : inn n a b = true) : a ≤ n ∧ n ≤ b := by
  unfold inn at h
  simpa using h
theorem bBk {b : Bk} (hb : I64 b.id ∧ I64 b.ver ∧ I64 b.rat ∧ I64 b.least ∧ I64 b.most ∧ I64 b.iss ∧ I64 b.ass ∧ (∀ c ∈ b.cuts, I64 c.d ∧ I64 c.r ∧ I64 c.c) ∧ ∀ n ∈ b.bar, I64 n) (hc : b.cur.length ≤ 12) (h1 : b.cuts.length ≤ 64) (h2 : b.bar.length ≤ 64) : Back rBk b (bkL b) := by
  obtain ⟨i1, i2, i3, i4, i5, i6, i7, i8, i9⟩ := hb
  exact bThn (bInt i1) (bThn (bInt i2) (bThn (bInt i3) (bThn (bInt i4) (bThn (bInt i5) (bThn (bInt i6) (bThn (bInt i7) (bThn (bText (by omega) (by omega)) (bThn (bCount (by omega) (by omega)) (bThn (bCuts b.cuts i8) (bEnd (bThn (bInts (by omega) (by omega) i9) (bRet _))))))))))))
theorem bQu {q : Qu} (h : I64 q.id ∧ I64 q.mem ∧ I64 q.side ∧ I64 q.bas ∧ I64 q.am ∧ I64 q.rate ∧ I64 q.st ∧ I64 q.en) : Back rQu q (quL q) := by
  obtain ⟨i1, i2, i3, i4, i5, i6, i7, i8⟩ := h
  exact bThn (bInt i1) (bThn (bInt i2) (bThn (bInt i3) (bThn (bInt i4) (bThn (bInt i5) (bThn (bInt i6) (bThn (bInt i7) (bEnd (bThn (bInt i8) (bRet _)))))))))
theorem lotsE_len {C : Cks} (hC : C.Ok) : ∀ (l : List Lt), lotsE C l = 0 → ∀ x ∈ l, x.i.length ≤ 12 := by
  intro l
  induction l with
  | nil => intro _ x hx; exact (List.not_mem_nil hx).elim
  | cons y l ih =>
    intro h x hx
    unfold lotsE at h
    by_cases h0 : lotE C y = 0
    · rw [if_pos h0] at h
      rcases List.mem_cons.1 hx with rfl | hx
      · unfold lotE at h0
        by_cases ha : amt x.q = true
        · rw [if_pos ha] at h0; exact hC.is _ h0
        · rw [if_neg ha] at h0; exact absurd h0 (by omega)
      · exact ih h x hx
    · rw [if_neg h0] at h
      exact absurd h h0
theorem prsE_len {C : Cks} (hC : C.Ok) : ∀ (l : List Lt) (p : Option (List UInt8)), prsE C p l = 0 → ∀ x ∈ l, x.i.length ≤ 12 := by
  intro l
  induction l with
  | nil => intro _ _ x hx; exact (List.not_mem_nil hx).elim
  | cons y l ih =>
    intro p h x hx
    unfold prsE at h
    by_cases h0 : C.is y.i ≠ 0
    · rw [if_pos h0] at h; exact absurd h h0
    · rw [if_neg h0] at h
      have h0' : C.is y.i = 0 := by simpa using h0
      by_cases hg : (!(inn y.q 1 4294967296 && prGo C p y.i)) = true
      · rw [if_pos hg] at h
        exact absurd h (by omega)
      · rw [if_neg hg] at h
        rcases List.mem_cons.1 hx with rfl | hx
        · exact hC.is _ h0'
        · exact ih _ h x hx
theorem bkE_len {C : Cks} (hC : C.Ok) {b : Bk} (h : bkE C b = 0) : b.cur.length ≤ 12 ∧ b.cuts.length ≤ 64 ∧ b.bar.length ≤ 64 := by
  unfold bkE at h
  split at h
  · omega
  · next h1 =>
    split at h
    · omega
    · split at h
      · omega
      · next h3 =>
        simp only [Bool.not_eq_true', Bool.not_eq_false, Bool.and_eq_true, decide_eq_true_eq] at h1 h3
        exact ⟨hC.cu _ h3, h1.2.2.2.2.2.2.1, h1.2.2.2.2.2.2.2⟩
theorem bBod {C : Cks} (hC : C.Ok) {m : Mg} (hw : m.Wf) (h : chkM C m = 0) : Back (rdK m.k) (plainM m) (bodL m) := by
  unfold chkM at h
  by_cases k1 : m.k = 1
  · rw [if_pos k1] at h
    unfold plainM bodL
    rw [if_pos k1, if_pos k1, k1]
    have hm : mbr m.mem = true := by apply Classical.byContradiction; intro hn; rw [if_neg hn] at h; omega
    rw [if_pos hm] at h
    have := hC.nm _ h
    exact bThn (bInt hw.mem) (bEnd (bThn (bText (by omega) (by omega)) (bRet _)))
  rw [if_neg k1] at h
  by_cases k2 : m.k = 2
  · rw [if_pos k2] at h
    unfold plainM bodL
    rw [if_neg k1, if_neg k1, if_pos k2, if_pos k2, k2]
    have := hC.ast _ h
    exact bThn (bText (by omega) (by omega)) (bThn (bInt hw.a.1) (bThn (bInt hw.a.2.1) (bThn (bInt hw.a.2.2) (bEnd (bThn (bText (by omega) (by omega)) (bRet _))))))
  rw [if_neg k2] at h
  by_cases k3 : m.k = 3
  · rw [if_pos k3] at h
    unfold plainM bodL
    rw [if_neg k1, if_neg k1, if_neg k2, if_neg k2, if_pos k3, if_pos k3, k3]
    have hb := bkE_len hC h
    exact bEnd (bThn (bBk hw.b hb.1 hb.2.1 hb.2.2) (bRet _))
  rw [if_neg k3] at h
  by_cases k4 : m.k = 4
  · rw [if_pos k4] at h
    unfold plainM bodL
    rw [if_neg k1, if_neg k1, if_neg k2, if_neg k2, if_neg k3, if_neg k3, if_pos k4, if_pos k4, k4]
    unfold prE at h
    split at h
    · omega
    · next hl =>
      have h2 := prsE_len hC _ _ h
      exact bThn (bCount (by omega) (by omega)) (bEnd (bThn (bLots m.ps fun x hx => ⟨h2 x hx, hw.ps x hx⟩) (bRet _)))
  rw [if_neg k4] at h
  by_cases k5 : m.k = 5
  · unfold plainM bodL
    rw [if_neg k1, if_neg k1, if_neg k2, if_neg k2, if_neg k3, if_neg k3, if_neg k4, if_neg k4, if_pos k5, if_pos k5, k5]
    exact bEnd (bThn (bInt hw.day) (bRet _))
  rw [if_neg k5] at h
  by_cases k6 : m.k = 6
  · rw [if_pos k6] at h
    unfold plainM bodL
    rw [if_neg k1, if_neg k1, if_neg k2, if_neg k2, if_neg k3, if_neg k3, if_neg k4, if_neg k4, if_neg k5, if_neg k5, if_pos k6, if_pos k6, k6]
    have hm : C.cu m.t = true := by apply Classical.byContradiction; intro hn; rw [if_neg hn] at h; omega
    have := hC.cu _ hm
    exact bThn (bInt hw.mem) (bThn (bInt hw.n) (bEnd (bThn (bText (by omega) (by omega)) (bRet _))))
  rw [if_neg k6] at h
  by_cases k7 : m.k = 7
  · rw [if_pos k7] at h
    unfold plainM bodL
    rw [if_neg k1, if_neg k1, if_neg k2, if_neg k2, if_neg k3, if_neg k3, if_neg k4, if_neg k4, if_neg k5, if_neg k5, if_neg k6, if_neg k6, if_pos k7, if_pos k7, k7]
    have hm : (mbr m.mem && sgn m.n) = true := by apply Classical.byContradiction; intro hn; rw [if_neg hn] at h; omega
    rw [if_pos hm] at h
    have := hC.is _ h
    exact bThn (bInt hw.mem) (bThn (bInt hw.n) (bEnd (bThn (bText (by omega) (by omega)) (bRet _))))
  rw [if_neg k7] at h
  by_cases k8 : m.k = 8
  · unfold plainM bodL
    rw [if_neg k1, if_neg k1, if_neg k2, if_neg k2, if_neg k3, if_neg k3, if_neg k4, if_neg k4, if_neg k5, if_neg k5, if_neg k6, if_neg k6, if_neg k7, if_neg k7, if_pos k8, if_pos k8, k8]
    exact bEnd (bThn (bQu hw.q) (bRet _))
  rw [if_neg k8] at h
  by_cases k9 : m.k = 9
  · unfold plainM bodL
    rw [if_neg k1, if_neg k1, if_neg k2, if_neg k2, if_neg k3, if_neg k3, if_neg k4, if_neg k4, if_neg k5, if_neg k5, if_neg k6, if_neg k6, if_neg k7, if_neg k7, if_neg k8, if_neg k8, if_pos k9, if_pos k9, k9]
    exact bThn (bInt hw.mem) (bEnd (bThn (bInt hw.n) (bRet _)))
  rw [if_neg k9] at h
  by_cases k10 : m.k = 10
  · unfold plainM bodL
    rw [if_neg k1, if_neg k1, if_neg k2, if_neg k2, if_neg k3, if_neg k3, if_neg k4, if_neg k4, if_neg k5, if_neg k5, if_neg k6, if_neg k6, if_neg k7, if_neg k7, if_neg k8, if_neg k8, if_neg k9, if_neg k9, if_pos k10, if_pos k10, k10]
    exact bThn (bInt hw.mem) (bThn (bInt hw.tr) (bEnd (bThn (bInt hw.day) (bRet _))))
  rw [if_neg k10] at h
  by_cases k11 : m.k = 11
  · rw [if_pos k11] at h
    unfold plainM bodL
    rw [if_neg k1, if_neg k1, if_neg k2, if_neg k2, if_neg k3, if_neg k3, if_neg k4, if_neg k4, if_neg k5, if_neg k5, if_neg k6, if_neg k6, if_neg k7, if_neg k7, if_neg k8, if_neg k8, if_neg k9, if_neg k9, if_neg k10, if_neg k10, if_pos k11, if_pos k11, k11]
    have hm : (mbr m.mem && (amt m.tr && decide (m.ins.length ≤ 64))) = true := by apply Classical.byContradiction; intro hn; rw [if_neg hn] at h; omega
    rw [if_pos hm] at h
    have h2 := lotsE_len hC _ h
    simp only [Bool.and_eq_true, decide_eq_true_eq] at hm
    exact bThn (bInt hw.mem) (bThn (bInt hw.tr) (bThn (bLot (h2 _ (List.mem_cons_self ..)) hw.out) (bThn (bCount (by omega) (by omega)) (bEnd (bThn (bLots m.ins fun x hx => ⟨h2 x (List.mem_cons_of_mem _ hx), hw.ins x hx⟩) (bRet _))))))
  rw [if_neg k11] at h
  by_cases k12 : m.k = 12
  · unfold plainM bodL
    rw [if_neg k1, if_neg k1, if_neg k2, if_neg k2, if_neg k3, if_neg k3, if_neg k4, if_neg k4, if_neg k5, if_neg k5, if_neg k6, if_neg k6, if_neg k7, if_neg k7, if_neg k8, if_neg k8, if_neg k9, if_neg k9, if_neg k10, if_neg k10, if_neg k11, if_neg k11, if_pos k12, if_pos k12, k12]
    exact bThn (bInt hw.mem) (bThn (bInt hw.day) (bEnd (bThn (bBool _) (bRet _))))
  rw [if_neg k12] at h
  by_cases k13 : m.k = 13
  · unfold plainM bodL
    rw [if_neg k1, if_neg k1, if_neg k2, if_neg k2, if_neg k3, if_neg k3, if_neg k4, if_neg k4, if_neg k5, if_neg k5, if_neg k6, if_neg k6, if_neg k7, if_neg k7, if_neg k8, if_neg k8, if_neg k9, if_neg k9, if_neg k10, if_neg k10, if_neg k11, if_neg k11, if_neg k12, if_neg k12, if_pos k13, if_pos k13, k13]
    exact bEnd (bThn (bInt hw.mem) (bRet _))
  rw [if_neg k13] at h
  by_cases k14 : m.k = 14
  · unfold plainM bodL
    rw [if_neg k1, if_neg k1, if_neg k2, if_neg k2, if_neg k3, if_neg k3, if_neg k4, if_neg k4, if_neg k5, if_neg k5, if_neg k6, if_neg k6, if_neg k7, if_neg k7, if_neg k8, if_neg k8, if_neg k9, if_neg k9, if_neg k10, if_neg k10, if_neg k11, if_neg k11, if_neg k12, if_neg k12, if_neg k13, if_neg k13, if_pos k14, if_pos k14, k14]
    exact bThn (bInt hw.mem) (bEnd (bThn (bInt hw.n) (bRet _)))
  rw [if_neg k14] at h
  by_cases k15 : m.k = 15
  · unfold plainM bodL
    rw [if_neg k1, if_neg k1, if_neg k2, if_neg k2, if_neg k3, if_neg k3, if_neg k4, if_neg k4, if_neg k5, if_neg k5, if_neg k6, if_neg k6, if_neg k7, if_neg k7, if_neg k8, if_neg k8, if_neg k9, if_neg k9, if_neg k10, if_neg k10, if_neg k11, if_neg k11, if_neg k12, if_neg k12, if_neg k13, if_neg k13, if_neg k14, if_neg k14, if_pos k15, if_pos k15, k15]
    exact bThn (bInt hw.tr) (bThn (bInt hw.day) (bEnd (bThn (bInt hw.rate) (bRet _))))
  rw [if_neg k15] at h
  omega
end Go.Proofs.YtdmlgheajblcdaaGreat
