/- layer 10, numbers: every kind; what is decoded was so encoded -/
import Derived.Test.YtdmlgheajblcdaaGreatME
import Derived.WalkKit
namespace Go.Proofs.YtdmlgheajblcdaaGreat
open Go.RowKit
set_option linter.unusedVariables false
set_option linter.unusedSimpArgs false
theorem I64.z : I64 0 := ⟨by omega, by omega⟩
theorem I64.lit (n : Int) (h : -9223372036854775808 ≤ n) (h2 : n ≤ 9223372036854775807) : I64 n := ⟨h, h2⟩
theorem Bk.zwf : I64 Bk.z.id ∧ I64 Bk.z.ver ∧ I64 Bk.z.rat ∧ I64 Bk.z.least ∧ I64 Bk.z.most ∧ I64 Bk.z.iss ∧ I64 Bk.z.ass ∧ (∀ c ∈ Bk.z.cuts, I64 c.d ∧ I64 c.r ∧ I64 c.c) ∧ ∀ n ∈ Bk.z.bar, I64 n := ⟨I64.z, I64.z, I64.z, I64.z, I64.z, I64.z, I64.z, fun _ h => (List.not_mem_nil h).elim, fun _ h => (List.not_mem_nil h).elim⟩
theorem Qu.zwf : I64 Qu.z.id ∧ I64 Qu.z.mem ∧ I64 Qu.z.side ∧ I64 Qu.z.bas ∧ I64 Qu.z.am ∧ I64 Qu.z.rate ∧ I64 Qu.z.st ∧ I64 Qu.z.en := ⟨I64.z, I64.z, I64.z, I64.z, I64.z, I64.z, I64.z, I64.z⟩
theorem Lt.zwf : ∀ l ∈ ([] : List Lt), I64 l.q := fun _ h => (List.not_mem_nil h).elim
/-- a message that was read: of its kind, its bytes, and nothing else in it -/
def Rdm (k : Int) (m : Mg) (l : List UInt8) : Prop := m.k = k ∧ l = bodL m ∧ m.Wf ∧ plainM m = m
theorem fk1 : Fw (rdK 1) (Rdm 1) :=
  fMono (fEq (f := rdK 1) (fThn fInt fun x0 => fThn (fText 160) fun x1 => fRet ({ Mg.z with k := 1, mem := x0, name := x1 } : Mg)) fun _ => rfl) fun m l h => by
    obtain ⟨x0, _, _, rfl, ⟨rfl, p0⟩, x1, _, _, rfl, ⟨rfl, _⟩, rfl, rfl⟩ := h
    exact ⟨rfl, by simp [bodL, lotL, List.append_assoc], ⟨I64.lit 1 (by omega) (by omega), p0, ⟨I64.z, I64.z, I64.z⟩, Bk.zwf, Lt.zwf, I64.z, I64.z, Qu.zwf, I64.z, Lt.zwf, I64.z, I64.z⟩, rfl⟩
theorem fk2 : Fw (rdK 2) (Rdm 2) :=
  fMono (fEq (f := rdK 2) (fThn (fText 12) fun x0 => fThn fInt fun x1 => fThn fInt fun x2 => fThn fInt fun x3 => fThn (fText 12) fun x4 => fRet ({ Mg.z with k := 2, a := ⟨x0, x1, x2, x3, x4⟩ } : Mg)) fun _ => rfl) fun m l h => by
    obtain ⟨x0, _, _, rfl, ⟨rfl, _⟩, x1, _, _, rfl, ⟨rfl, p1⟩, x2, _, _, rfl, ⟨rfl, p2⟩, x3, _, _, rfl, ⟨rfl, p3⟩, x4, _, _, rfl, ⟨rfl, _⟩, rfl, rfl⟩ := h
    exact ⟨rfl, by simp [bodL, lotL, List.append_assoc], ⟨I64.lit 2 (by omega) (by omega), I64.z, ⟨p1, p2, p3⟩, Bk.zwf, Lt.zwf, I64.z, I64.z, Qu.zwf, I64.z, Lt.zwf, I64.z, I64.z⟩, rfl⟩
theorem fk3 : Fw (rdK 3) (Rdm 3) :=
  fMono (fEq (f := rdK 3) (fThn fBk fun x0 => fRet ({ Mg.z with k := 3, b := x0 } : Mg)) fun _ => rfl) fun m l h => by
    obtain ⟨x0, _, _, rfl, ⟨rfl, p0, _⟩, rfl, rfl⟩ := h
    exact ⟨rfl, by simp [bodL, lotL, List.append_assoc], ⟨I64.lit 3 (by omega) (by omega), I64.z, ⟨I64.z, I64.z, I64.z⟩, p0, Lt.zwf, I64.z, I64.z, Qu.zwf, I64.z, Lt.zwf, I64.z, I64.z⟩, rfl⟩
theorem fk4 : Fw (rdK 4) (Rdm 4) :=
  fMono (fEq (f := rdK 4) (fThn (fCount 64) fun x0 => fThn (fLots x0) fun x1 => fRet ({ Mg.z with k := 4, ps := x1 } : Mg)) fun _ => rfl) fun m l h => by
    obtain ⟨x0, _, _, rfl, ⟨rfl, _, _⟩, x1, _, _, rfl, ⟨rfl, rfl, p1⟩, rfl, rfl⟩ := h
    exact ⟨rfl, by simp [bodL, lotL, List.append_assoc], ⟨I64.lit 4 (by omega) (by omega), I64.z, ⟨I64.z, I64.z, I64.z⟩, Bk.zwf, fun l h => (p1 l h).2, I64.z, I64.z, Qu.zwf, I64.z, Lt.zwf, I64.z, I64.z⟩, rfl⟩
theorem fk5 : Fw (rdK 5) (Rdm 5) :=
  fMono (fEq (f := rdK 5) (fThn fInt fun x0 => fRet ({ Mg.z with k := 5, day := x0 } : Mg)) fun _ => rfl) fun m l h => by
    obtain ⟨x0, _, _, rfl, ⟨rfl, p0⟩, rfl, rfl⟩ := h
    exact ⟨rfl, by simp [bodL, lotL, List.append_assoc], ⟨I64.lit 5 (by omega) (by omega), I64.z, ⟨I64.z, I64.z, I64.z⟩, Bk.zwf, Lt.zwf, p0, I64.z, Qu.zwf, I64.z, Lt.zwf, I64.z, I64.z⟩, rfl⟩
theorem fk6 : Fw (rdK 6) (Rdm 6) :=
  fMono (fEq (f := rdK 6) (fThn fInt fun x0 => fThn fInt fun x1 => fThn (fText 12) fun x2 => fRet ({ Mg.z with k := 6, mem := x0, t := x2, n := x1 } : Mg)) fun _ => rfl) fun m l h => by
    obtain ⟨x0, _, _, rfl, ⟨rfl, p0⟩, x1, _, _, rfl, ⟨rfl, p1⟩, x2, _, _, rfl, ⟨rfl, _⟩, rfl, rfl⟩ := h
    exact ⟨rfl, by simp [bodL, lotL, List.append_assoc], ⟨I64.lit 6 (by omega) (by omega), p0, ⟨I64.z, I64.z, I64.z⟩, Bk.zwf, Lt.zwf, I64.z, p1, Qu.zwf, I64.z, Lt.zwf, I64.z, I64.z⟩, rfl⟩
theorem fk7 : Fw (rdK 7) (Rdm 7) :=
  fMono (fEq (f := rdK 7) (fThn fInt fun x0 => fThn fInt fun x1 => fThn (fText 12) fun x2 => fRet ({ Mg.z with k := 7, mem := x0, t := x2, n := x1 } : Mg)) fun _ => rfl) fun m l h => by
    obtain ⟨x0, _, _, rfl, ⟨rfl, p0⟩, x1, _, _, rfl, ⟨rfl, p1⟩, x2, _, _, rfl, ⟨rfl, _⟩, rfl, rfl⟩ := h
    exact ⟨rfl, by simp [bodL, lotL, List.append_assoc], ⟨I64.lit 7 (by omega) (by omega), p0, ⟨I64.z, I64.z, I64.z⟩, Bk.zwf, Lt.zwf, I64.z, p1, Qu.zwf, I64.z, Lt.zwf, I64.z, I64.z⟩, rfl⟩
theorem fk8 : Fw (rdK 8) (Rdm 8) :=
  fMono (fEq (f := rdK 8) (fThn fQu fun x0 => fRet ({ Mg.z with k := 8, q := x0 } : Mg)) fun _ => rfl) fun m l h => by
    obtain ⟨x0, _, _, rfl, ⟨rfl, p0⟩, rfl, rfl⟩ := h
    exact ⟨rfl, by simp [bodL, lotL, List.append_assoc], ⟨I64.lit 8 (by omega) (by omega), I64.z, ⟨I64.z, I64.z, I64.z⟩, Bk.zwf, Lt.zwf, I64.z, I64.z, p0, I64.z, Lt.zwf, I64.z, I64.z⟩, rfl⟩
theorem fk9 : Fw (rdK 9) (Rdm 9) :=
  fMono (fEq (f := rdK 9) (fThn fInt fun x0 => fThn fInt fun x1 => fRet ({ Mg.z with k := 9, mem := x0, n := x1 } : Mg)) fun _ => rfl) fun m l h => by
    obtain ⟨x0, _, _, rfl, ⟨rfl, p0⟩, x1, _, _, rfl, ⟨rfl, p1⟩, rfl, rfl⟩ := h
    exact ⟨rfl, by simp [bodL, lotL, List.append_assoc], ⟨I64.lit 9 (by omega) (by omega), p0, ⟨I64.z, I64.z, I64.z⟩, Bk.zwf, Lt.zwf, I64.z, p1, Qu.zwf, I64.z, Lt.zwf, I64.z, I64.z⟩, rfl⟩
theorem fk10 : Fw (rdK 10) (Rdm 10) :=
  fMono (fEq (f := rdK 10) (fThn fInt fun x0 => fThn fInt fun x1 => fThn fInt fun x2 => fRet ({ Mg.z with k := 10, mem := x0, tr := x1, day := x2 } : Mg)) fun _ => rfl) fun m l h => by
    obtain ⟨x0, _, _, rfl, ⟨rfl, p0⟩, x1, _, _, rfl, ⟨rfl, p1⟩, x2, _, _, rfl, ⟨rfl, p2⟩, rfl, rfl⟩ := h
    exact ⟨rfl, by simp [bodL, lotL, List.append_assoc], ⟨I64.lit 10 (by omega) (by omega), p0, ⟨I64.z, I64.z, I64.z⟩, Bk.zwf, Lt.zwf, p2, I64.z, Qu.zwf, I64.z, Lt.zwf, p1, I64.z⟩, rfl⟩
theorem fk11 : Fw (rdK 11) (Rdm 11) :=
  fMono (fEq (f := rdK 11) (fThn fInt fun x0 => fThn fInt fun x1 => fThn fLot fun x2 => fThn (fCount 64) fun x3 => fThn (fLots x3) fun x4 => fRet ({ Mg.z with k := 11, mem := x0, tr := x1, out := x2, ins := x4 } : Mg)) fun _ => rfl) fun m l h => by
    obtain ⟨x0, _, _, rfl, ⟨rfl, p0⟩, x1, _, _, rfl, ⟨rfl, p1⟩, x2, _, _, rfl, ⟨rfl, _, p2⟩, x3, _, _, rfl, ⟨rfl, _, _⟩, x4, _, _, rfl, ⟨rfl, rfl, p4⟩, rfl, rfl⟩ := h
    exact ⟨rfl, by simp [bodL, lotL, List.append_assoc], ⟨I64.lit 11 (by omega) (by omega), p0, ⟨I64.z, I64.z, I64.z⟩, Bk.zwf, Lt.zwf, I64.z, I64.z, Qu.zwf, p2, fun l h => (p4 l h).2, p1, I64.z⟩, rfl⟩
theorem fk12 : Fw (rdK 12) (Rdm 12) :=
  fMono (fEq (f := rdK 12) (fThn fInt fun x0 => fThn fInt fun x1 => fThn fBool fun x2 => fRet ({ Mg.z with k := 12, mem := x0, day := x1, done := x2 } : Mg)) fun _ => rfl) fun m l h => by
    obtain ⟨x0, _, _, rfl, ⟨rfl, p0⟩, x1, _, _, rfl, ⟨rfl, p1⟩, x2, _, _, rfl, rfl, rfl, rfl⟩ := h
    exact ⟨rfl, by simp [bodL, lotL, List.append_assoc], ⟨I64.lit 12 (by omega) (by omega), p0, ⟨I64.z, I64.z, I64.z⟩, Bk.zwf, Lt.zwf, p1, I64.z, Qu.zwf, I64.z, Lt.zwf, I64.z, I64.z⟩, rfl⟩
theorem fk13 : Fw (rdK 13) (Rdm 13) :=
  fMono (fEq (f := rdK 13) (fThn fInt fun x0 => fRet ({ Mg.z with k := 13, mem := x0 } : Mg)) fun _ => rfl) fun m l h => by
    obtain ⟨x0, _, _, rfl, ⟨rfl, p0⟩, rfl, rfl⟩ := h
    exact ⟨rfl, by simp [bodL, lotL, List.append_assoc], ⟨I64.lit 13 (by omega) (by omega), p0, ⟨I64.z, I64.z, I64.z⟩, Bk.zwf, Lt.zwf, I64.z, I64.z, Qu.zwf, I64.z, Lt.zwf, I64.z, I64.z⟩, rfl⟩
theorem fk14 : Fw (rdK 14) (Rdm 14) :=
  fMono (fEq (f := rdK 14) (fThn fInt fun x0 => fThn fInt fun x1 => fRet ({ Mg.z with k := 14, mem := x0, n := x1 } : Mg)) fun _ => rfl) fun m l h => by
    obtain ⟨x0, _, _, rfl, ⟨rfl, p0⟩, x1, _, _, rfl, ⟨rfl, p1⟩, rfl, rfl⟩ := h
    exact ⟨rfl, by simp [bodL, lotL, List.append_assoc], ⟨I64.lit 14 (by omega) (by omega), p0, ⟨I64.z, I64.z, I64.z⟩, Bk.zwf, Lt.zwf, I64.z, p1, Qu.zwf, I64.z, Lt.zwf, I64.z, I64.z⟩, rfl⟩
theorem fk15 : Fw (rdK 15) (Rdm 15) :=
  fMono (fEq (f := rdK 15) (fThn fInt fun x0 => fThn fInt fun x1 => fThn fInt fun x2 => fRet ({ Mg.z with k := 15, tr := x0, day := x1, rate := x2 } : Mg)) fun _ => rfl) fun m l h => by
    obtain ⟨x0, _, _, rfl, ⟨rfl, p0⟩, x1, _, _, rfl, ⟨rfl, p1⟩, x2, _, _, rfl, ⟨rfl, p2⟩, rfl, rfl⟩ := h
    exact ⟨rfl, by simp [bodL, lotL, List.append_assoc], ⟨I64.lit 15 (by omega) (by omega), I64.z, ⟨I64.z, I64.z, I64.z⟩, Bk.zwf, Lt.zwf, p1, I64.z, Qu.zwf, I64.z, Lt.zwf, p0, p2⟩, rfl⟩
theorem fBod {k : Int} (h : inn k 1 15 = true) : Fw (rdK k) (Rdm k) := by
  have h1 := inn_of h
  have hk : k = 1 ∨ k = 2 ∨ k = 3 ∨ k = 4 ∨ k = 5 ∨ k = 6 ∨ k = 7 ∨ k = 8 ∨ k = 9 ∨ k = 10 ∨ k = 11 ∨ k = 12 ∨ k = 13 ∨ k = 14 ∨ k = 15 := by omega
  rcases hk with rfl | rfl | rfl | rfl | rfl | rfl | rfl | rfl | rfl | rfl | rfl | rfl | rfl | rfl | rfl
  · exact fk1
  · exact fk2
  · exact fk3
  · exact fk4
  · exact fk5
  · exact fk6
  · exact fk7
  · exact fk8
  · exact fk9
  · exact fk10
  · exact fk11
  · exact fk12
  · exact fk13
  · exact fk14
  · exact fk15
/-- P10.6, the other way: what is decoded was so encoded -/
theorem enc_dec {C : Cks} {s : List UInt8} {m : Mg} {n : Nat} (h : decN C s = (m, n, 0)) : n = s.length ∧ encL m = s ∧ chkM C m = 0 ∧ m.Wf ∧ plainM m = m ∧ inn m.k 1 15 = true := by
  have hok : (Rd.mk s 0 0).Ok := Nat.zero_le _
  obtain ⟨a1, a2, a3, a4⟩ := fInt ⟨s, 0, 0⟩ hok
  unfold decN at h
  by_cases h0 : (rInt ⟨s, 0, 0⟩).1.e ≠ 0
  · rw [if_pos h0] at h
    have := congrArg (fun x => x.2.2) h
    exact absurd this h0
  rw [if_neg h0] at h
  have h0 : (rInt ⟨s, 0, 0⟩).1.e = 0 := by simpa using h0
  cases hin : inn (rInt ⟨s, 0, 0⟩).2 1 15 with
  | false =>
    rw [hin, if_pos (by rfl)] at h
    have : (17 : Nat) = 0 := congrArg (fun x => x.2.2) h
    omega
  | true =>
    rw [hin, if_neg (by simp)] at h
    obtain ⟨l1, e1, p1, p2⟩ := a4 h0
    obtain ⟨b1, b2, b3, b4⟩ := fBod hin (rInt ⟨s, 0, 0⟩).1 a1
    generalize (rInt ⟨s, 0, 0⟩).2 = k at *
    generalize (rInt ⟨s, 0, 0⟩).1 = r1 at *
    generalize (rdK k r1).2 = m2 at *
    generalize (rdK k r1).1 = r2 at *
    by_cases h2 : (rEnd r2).1.e ≠ 0
    · rw [if_pos h2] at h
      have := congrArg (fun x => x.2.2) h
      exact absurd this h2
    rw [if_neg h2] at h
    have h2 : (rEnd r2).1.e = 0 := by simpa using h2
    have hr2 : r2.e = 0 := by
      apply Classical.byContradiction
      intro hn
      rw [rEnd_bad hn] at h2
      exact hn h2
    have hat : ¬ r2.at_ < r2.s.length := by
      intro hl
      unfold rEnd at h2
      rw [if_pos hl] at h2
      simp [Rd.fl, hr2] at h2
    by_cases h3 : chkM C m2 ≠ 0
    · rw [if_pos h3] at h
      have := congrArg (fun x => x.2.2) h
      exact absurd this h3
    rw [if_neg h3] at h
    have h3 : chkM C m2 = 0 := by simpa using h3
    have hm : m2 = m := congrArg (fun x => x.1) h
    have hn : s.length = n := congrArg (fun x => x.2.1) h
    subst hm
    obtain ⟨l2, e2, q1, q2, q3, q4⟩ := b4 hr2
    have ee : (s.drop 0) = l1 ++ (l2 ++ []) := by
      change s.drop 0 = l1 ++ s.drop r1.at_ at e1
      rw [e1]
      have hs : r1.s = s := a2
      rw [hs] at e2
      rw [e2]
      have hd : s.drop r2.at_ = [] := List.drop_of_length_le (by have : r2.s = s := b2.trans hs; rw [this] at hat; omega)
      rw [hd]
    refine ⟨hn.symm, ?_, h3, q3, q4, by rw [q1]; exact hin⟩
    unfold encL
    rw [q1, ← q2, ← p1]
    simpa using ee.symm
end Go.Proofs.YtdmlgheajblcdaaGreat
