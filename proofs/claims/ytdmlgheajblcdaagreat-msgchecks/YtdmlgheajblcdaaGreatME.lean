/- layer 10, numbers: what is decoded was so encoded -/
import Derived.Test.YtdmlgheajblcdaaGreatMD
import Derived.WalkKit
namespace Go.Proofs.YtdmlgheajblcdaaGreat
open Go.RowKit
set_option linter.unusedVariables false
set_option linter.unusedSimpArgs false
theorem fIs (n : Nat) : Fw (rIs n) (fun xs l => xs.length = n ∧ l = flatI xs ∧ ∀ x ∈ xs, I64 x) := by
  induction n with
  | zero => exact fMono (fRet []) fun x l h => by obtain ⟨rfl, rfl⟩ := h; exact ⟨rfl, rfl, fun x hx => (List.not_mem_nil hx).elim⟩
  | succ n ih =>
    intro r hr
    have ho := rIs_ok (n + 1) hr
    refine ⟨ho.1, ho.2, fun he => by unfold rIs; rw [if_pos he], fun he => ?_⟩
    have h0 : r.e = 0 := by
      apply Classical.byContradiction
      intro hn
      unfold rIs at he
      rw [if_pos hn] at he
      exact hn he
    have e : rIs (n + 1) r = thn (rInt r) fun x r => thn (rIs n r) fun k r => (r, x :: k) := by
      show (if r.e ≠ 0 then _ else _) = _
      rw [if_neg (by simpa using h0)]
      rfl
    rw [e] at he ⊢
    obtain ⟨l, e1, x, l1, l2, rfl, ⟨rfl, p1⟩, ⟨xs, l3, l4, rfl, ⟨q1, rfl, q2⟩, q3, rfl⟩⟩ := (fThn fInt fun x => fThn ih fun k => fRet (x :: k)) r hr |>.2.2.2 he
    refine ⟨_, e1, ?_⟩
    change (thn (rInt r) fun x r => thn (rIs n r) fun k r => (r, x :: k)).2 = x :: xs at q3
    rw [q3]
    refine ⟨by rw [List.length_cons, q1], by simp [flatI], fun y hy => ?_⟩
    rcases List.mem_cons.1 hy with rfl | hy
    · exact p1
    · exact q2 y hy
theorem fInts (m : Int) : Fw (fun r => rInts r m) (fun xs l => l = intsL xs ∧ (xs.length : Int) ≤ m ∧ ∀ x ∈ xs, I64 x) := fun r hr => by
  have ho := rInts_ok hr m
  refine ⟨ho.1, ho.2, fun he => by show (rInts r m).1 = r; rw [rInts_bad he], fun he => ?_⟩
  change (rInts r m).1.e = 0 at he
  have hu : (rIs (rCount r m).2 (rCount r m).1).1.e = 0 := by
    apply Classical.byContradiction
    intro hn
    unfold rInts at he
    rw [if_pos hn] at he
    exact hn he
  have e : rInts r m = thn (rCount r m) fun n r => rIs n r := by unfold rInts thn; rw [if_neg (by simpa using hu)]
  obtain ⟨l, e1, n, l1, l2, rfl, ⟨rfl, p1, p2⟩, ⟨q1, rfl, q2⟩⟩ := (fThn (fCount m) fun n => fIs n) r hr |>.2.2.2 hu
  change r.s.drop r.at_ = _ ++ r.s.drop (thn (rCount r m) fun n r => rIs n r).1.at_ at e1
  change (thn (rCount r m) fun n r => rIs n r).2.length = n at q1
  refine ⟨_, by show r.s.drop r.at_ = _ ++ r.s.drop (rInts r m).1.at_; rw [e]; exact e1, ?_⟩
  show uintL n ++ flatI (thn (rCount r m) fun n r => rIs n r).2 = intsL (rInts r m).2 ∧ ((rInts r m).2.length : Int) ≤ m ∧ ∀ x ∈ (rInts r m).2, I64 x
  rw [e]
  exact ⟨by unfold intsL; rw [q1], by rw [q1]; exact p1, q2⟩
theorem fLot : Fw rLot (fun x l => l = lotL x ∧ x.i.length ≤ 12 ∧ I64 x.q) :=
  fMono (fEq (g := fun r => thn (rText r 12) fun s r => thn (rInt r) fun n r => (r, (⟨s, n⟩ : Lt))) (fThn (fText 12) fun s => fThn fInt fun n => fRet _) fun _ => rfl) fun x l h => by
    obtain ⟨s, l1, l2, rfl, ⟨rfl, p1⟩, n, l3, l4, rfl, ⟨rfl, p2⟩, rfl, rfl⟩ := h
    exact ⟨by simp [lotL], by simp only; omega, p2⟩
theorem fCut : Fw rCut (fun x l => l = cutL x ∧ I64 x.d ∧ I64 x.r ∧ I64 x.c) :=
  fMono (fEq (g := fun r => thn (rInt r) fun a r => thn (rInt r) fun b r => thn (rInt r) fun c r => (r, (⟨a, b, c⟩ : Ct))) (fThn fInt fun a => fThn fInt fun b => fThn fInt fun c => fRet _) fun _ => rfl) fun x l h => by
    obtain ⟨a, l1, l2, rfl, ⟨rfl, p1⟩, b, l3, l4, rfl, ⟨rfl, p2⟩, c, l5, l6, rfl, ⟨rfl, p3⟩, rfl, rfl⟩ := h
    exact ⟨by simp [cutL], p1, p2, p3⟩
theorem fLots (n : Nat) : Fw (rLots n) (fun xs l => xs.length = n ∧ l = flatM lotL xs ∧ ∀ x ∈ xs, x.i.length ≤ 12 ∧ I64 x.q) := by
  induction n with
  | zero => exact fMono (fRet []) fun x l h => by obtain ⟨rfl, rfl⟩ := h; exact ⟨rfl, rfl, fun x hx => (List.not_mem_nil hx).elim⟩
  | succ n ih =>
    intro r hr
    by_cases h0 : r.e = 0
    · have e : rLots (n + 1) r = thn (rLot r) fun x r => thn (rLots n r) fun k r => (r, x :: k) := by
        show (if r.e ≠ 0 then _ else _) = _
        rw [if_neg (by simpa using h0)]
        rfl
      rw [e]
      obtain ⟨h1, h2, h3, h4⟩ := (fThn fLot fun x => fThn ih fun k => fRet (x :: k)) r hr
      refine ⟨h1, h2, h3, fun he => ?_⟩
      obtain ⟨l, e1, x, l1, l2, rfl, ⟨rfl, p1⟩, ⟨xs, l3, l4, rfl, ⟨q1, rfl, q2⟩, q3, rfl⟩⟩ := h4 he
      refine ⟨_, e1, ?_⟩
      change (thn (rLot r) fun x r => thn (rLots n r) fun k r => (r, x :: k)).2 = x :: xs at q3
      rw [q3]
      refine ⟨by rw [List.length_cons, q1], by simp [flatM], fun y hy => ?_⟩
      rcases List.mem_cons.1 hy with rfl | hy
      · exact p1
      · exact q2 y hy
    · have e : rLots (n + 1) r = (r, []) := by unfold rLots; rw [if_pos h0]
      rw [e]
      exact ⟨hr, rfl, fun _ => rfl, fun he => absurd he h0⟩
theorem fCuts (n : Nat) : Fw (rCuts n) (fun xs l => xs.length = n ∧ l = flatM cutL xs ∧ ∀ x ∈ xs, I64 x.d ∧ I64 x.r ∧ I64 x.c) := by
  induction n with
  | zero => exact fMono (fRet []) fun x l h => by obtain ⟨rfl, rfl⟩ := h; exact ⟨rfl, rfl, fun x hx => (List.not_mem_nil hx).elim⟩
  | succ n ih =>
    intro r hr
    by_cases h0 : r.e = 0
    · have e : rCuts (n + 1) r = thn (rCut r) fun x r => thn (rCuts n r) fun k r => (r, x :: k) := by
        show (if r.e ≠ 0 then _ else _) = _
        rw [if_neg (by simpa using h0)]
        rfl
      rw [e]
      obtain ⟨h1, h2, h3, h4⟩ := (fThn fCut fun x => fThn ih fun k => fRet (x :: k)) r hr
      refine ⟨h1, h2, h3, fun he => ?_⟩
      obtain ⟨l, e1, x, l1, l2, rfl, ⟨rfl, p1⟩, ⟨xs, l3, l4, rfl, ⟨q1, rfl, q2⟩, q3, rfl⟩⟩ := h4 he
      refine ⟨_, e1, ?_⟩
      change (thn (rCut r) fun x r => thn (rCuts n r) fun k r => (r, x :: k)).2 = x :: xs at q3
      rw [q3]
      refine ⟨by rw [List.length_cons, q1], by simp [flatM], fun y hy => ?_⟩
      rcases List.mem_cons.1 hy with rfl | hy
      · exact p1
      · exact q2 y hy
    · have e : rCuts (n + 1) r = (r, []) := by unfold rCuts; rw [if_pos h0]
      rw [e]
      exact ⟨hr, rfl, fun _ => rfl, fun he => absurd he h0⟩
theorem fBk : Fw rBk (fun b l => l = bkL b ∧ (I64 b.id ∧ I64 b.ver ∧ I64 b.rat ∧ I64 b.least ∧ I64 b.most ∧ I64 b.iss ∧ I64 b.ass ∧ (∀ c ∈ b.cuts, I64 c.d ∧ I64 c.r ∧ I64 c.c) ∧ ∀ n ∈ b.bar, I64 n) ∧ b.cuts.length ≤ 64 ∧ b.bar.length ≤ 64 ∧ b.cur.length ≤ 12) :=
  fMono (fThn fInt fun i => fThn fInt fun v => fThn fInt fun t => fThn fInt fun l => fThn fInt fun m => fThn fInt fun s => fThn fInt fun x => fThn (fText 12) fun c => fThn (fCount 64) fun n => fThn (fCuts n) fun cs => fThn (fInts 64) fun b => fRet _) fun b l h => by
    obtain ⟨_, _, _, rfl, ⟨rfl, p1⟩, _, _, _, rfl, ⟨rfl, p2⟩, _, _, _, rfl, ⟨rfl, p3⟩, _, _, _, rfl, ⟨rfl, p4⟩, _, _, _, rfl, ⟨rfl, p5⟩, _, _, _, rfl, ⟨rfl, p6⟩, _, _, _, rfl, ⟨rfl, p7⟩, _, _, _, rfl, ⟨rfl, p8⟩, _, _, _, rfl, ⟨rfl, p9, _⟩, _, _, _, rfl, ⟨rfl, rfl, p10⟩, _, _, _, rfl, ⟨rfl, p11, p12⟩, rfl, rfl⟩ := h
    exact ⟨by simp [bkL], ⟨p1, p2, p3, p4, p5, p6, p7, p10, p12⟩, by simp only; omega, by simp only; omega, by simp only; omega⟩
theorem fQu : Fw rQu (fun q l => l = quL q ∧ I64 q.id ∧ I64 q.mem ∧ I64 q.side ∧ I64 q.bas ∧ I64 q.am ∧ I64 q.rate ∧ I64 q.st ∧ I64 q.en) :=
  fMono (fThn fInt fun i => fThn fInt fun v => fThn fInt fun t => fThn fInt fun l => fThn fInt fun m => fThn fInt fun s => fThn fInt fun x => fThn fInt fun y => fRet _) fun b l h => by
    obtain ⟨_, _, _, rfl, ⟨rfl, p1⟩, _, _, _, rfl, ⟨rfl, p2⟩, _, _, _, rfl, ⟨rfl, p3⟩, _, _, _, rfl, ⟨rfl, p4⟩, _, _, _, rfl, ⟨rfl, p5⟩, _, _, _, rfl, ⟨rfl, p6⟩, _, _, _, rfl, ⟨rfl, p7⟩, _, _, _, rfl, ⟨rfl, p8⟩, rfl, rfl⟩ := h
    exact ⟨by simp [quL], p1, p2, p3, p4, p5, p6, p7, p8⟩
end Go.Proofs.YtdmlgheajblcdaaGreat
