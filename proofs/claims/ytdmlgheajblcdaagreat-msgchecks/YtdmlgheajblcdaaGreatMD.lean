/- layer 10, numbers: what is encoded is decoded; what is decoded was so encoded -/
import Derived.Test.YtdmlgheajblcdaaGreatMC
import Derived.WalkKit
namespace Go.Proofs.YtdmlgheajblcdaaGreat
open Go.RowKit
set_option linter.unusedVariables false
set_option linter.unusedSimpArgs false
theorem kinds (k : Int) : inn k 1 15 = false ∨ k = 1 ∨ k = 2 ∨ k = 3 ∨ k = 4 ∨ k = 5 ∨ k = 6 ∨ k = 7 ∨ k = 8 ∨ k = 9 ∨ k = 10 ∨ k = 11 ∨ k = 12 ∨ k = 13 ∨ k = 14 ∨ k = 15 := by
  cases h : inn k 1 15 with
  | false => exact .inl rfl
  | true => have h1 := inn_of h; omega
theorem not_kind {k : Int} (h : inn k 1 15 = false) (j : Int) (h1 : 1 ≤ j) (h2 : j ≤ 15) : ¬ k = j := by
  rintro rfl
  unfold inn at h
  rw [decide_eq_true h1, decide_eq_true h2] at h
  exact absurd h (by decide)
theorem chk_none {C : Cks} {m : Mg} (h : inn m.k 1 15 = false) : chkM C m = 17 := by
  have k1 := not_kind h 1 (by omega) (by omega)
  have k2 := not_kind h 2 (by omega) (by omega)
  have k3 := not_kind h 3 (by omega) (by omega)
  have k4 := not_kind h 4 (by omega) (by omega)
  have k5 := not_kind h 5 (by omega) (by omega)
  have k6 := not_kind h 6 (by omega) (by omega)
  have k7 := not_kind h 7 (by omega) (by omega)
  have k8 := not_kind h 8 (by omega) (by omega)
  have k9 := not_kind h 9 (by omega) (by omega)
  have k10 := not_kind h 10 (by omega) (by omega)
  have k11 := not_kind h 11 (by omega) (by omega)
  have k12 := not_kind h 12 (by omega) (by omega)
  have k13 := not_kind h 13 (by omega) (by omega)
  have k14 := not_kind h 14 (by omega) (by omega)
  have k15 := not_kind h 15 (by omega) (by omega)
  unfold chkM
  rw [if_neg k1, if_neg k2, if_neg k3, if_neg k4, if_neg k5, if_neg k6, if_neg k7, if_neg k8, if_neg k9, if_neg k10, if_neg k11, if_neg k12, if_neg k13, if_neg k14, if_neg k15]
theorem plain_none {m : Mg} (h : inn m.k 1 15 = false) : plainM m = { Mg.z with k := m.k } := by
  have k1 := not_kind h 1 (by omega) (by omega)
  have k2 := not_kind h 2 (by omega) (by omega)
  have k3 := not_kind h 3 (by omega) (by omega)
  have k4 := not_kind h 4 (by omega) (by omega)
  have k5 := not_kind h 5 (by omega) (by omega)
  have k6 := not_kind h 6 (by omega) (by omega)
  have k7 := not_kind h 7 (by omega) (by omega)
  have k8 := not_kind h 8 (by omega) (by omega)
  have k9 := not_kind h 9 (by omega) (by omega)
  have k10 := not_kind h 10 (by omega) (by omega)
  have k11 := not_kind h 11 (by omega) (by omega)
  have k12 := not_kind h 12 (by omega) (by omega)
  have k13 := not_kind h 13 (by omega) (by omega)
  have k14 := not_kind h 14 (by omega) (by omega)
  have k15 := not_kind h 15 (by omega) (by omega)
  unfold plainM
  rw [if_neg k1, if_neg k2, if_neg k3, if_neg k4, if_neg k5, if_neg k6, if_neg k7, if_neg k8, if_neg k9, if_neg k10, if_neg k11, if_neg k12, if_neg k13, if_neg k14, if_neg k15]
theorem bod_none {m : Mg} (h : inn m.k 1 15 = false) : bodL m = [] := by
  have k1 := not_kind h 1 (by omega) (by omega)
  have k2 := not_kind h 2 (by omega) (by omega)
  have k3 := not_kind h 3 (by omega) (by omega)
  have k4 := not_kind h 4 (by omega) (by omega)
  have k5 := not_kind h 5 (by omega) (by omega)
  have k6 := not_kind h 6 (by omega) (by omega)
  have k7 := not_kind h 7 (by omega) (by omega)
  have k8 := not_kind h 8 (by omega) (by omega)
  have k9 := not_kind h 9 (by omega) (by omega)
  have k10 := not_kind h 10 (by omega) (by omega)
  have k11 := not_kind h 11 (by omega) (by omega)
  have k12 := not_kind h 12 (by omega) (by omega)
  have k13 := not_kind h 13 (by omega) (by omega)
  have k14 := not_kind h 14 (by omega) (by omega)
  have k15 := not_kind h 15 (by omega) (by omega)
  unfold bodL
  rw [if_neg k1, if_neg k2, if_neg k3, if_neg k4, if_neg k5, if_neg k6, if_neg k7, if_neg k8, if_neg k9, if_neg k10, if_neg k11, if_neg k12, if_neg k13, if_neg k14, if_neg k15]
theorem plain_k (m : Mg) : (plainM m).k = m.k := by
  obtain ⟨k, mem, name, a, b, ps, day, t, n, q, out, ins, tr, done, rate⟩ := m
  rcases kinds k with h | rfl | rfl | rfl | rfl | rfl | rfl | rfl | rfl | rfl | rfl | rfl | rfl | rfl | rfl | rfl
  · rw [plain_none h]
  all_goals rfl
theorem chk_plain (C : Cks) (m : Mg) : chkM C (plainM m) = chkM C m := by
  obtain ⟨k, mem, name, a, b, ps, day, t, n, q, out, ins, tr, done, rate⟩ := m
  rcases kinds k with h | rfl | rfl | rfl | rfl | rfl | rfl | rfl | rfl | rfl | rfl | rfl | rfl | rfl | rfl | rfl
  · rw [chk_none (m := plainM _) (by rw [plain_k]; exact h), chk_none h]
  all_goals rfl
theorem bod_plain (m : Mg) : bodL (plainM m) = bodL m := by
  obtain ⟨k, mem, name, a, b, ps, day, t, n, q, out, ins, tr, done, rate⟩ := m
  rcases kinds k with h | rfl | rfl | rfl | rfl | rfl | rfl | rfl | rfl | rfl | rfl | rfl | rfl | rfl | rfl | rfl
  · rw [bod_none (m := plainM _) (by rw [plain_k]; exact h), bod_none h]
  all_goals rfl
theorem enc_plain (m : Mg) : encL (plainM m) = encL m := by
  unfold encL
  rw [plain_k, bod_plain]
theorem plain_plain (m : Mg) : plainM (plainM m) = plainM m := by
  obtain ⟨k, mem, name, a, b, ps, day, t, n, q, out, ins, tr, done, rate⟩ := m
  rcases kinds k with h | rfl | rfl | rfl | rfl | rfl | rfl | rfl | rfl | rfl | rfl | rfl | rfl | rfl | rfl | rfl
  · rw [plain_none (m := plainM _) (by rw [plain_k]; exact h), plain_none h]
  all_goals rfl
theorem chk_kind {C : Cks} {m : Mg} (h : chkM C m = 0) : inn m.k 1 15 = true := by
  cases hk : inn m.k 1 15 with
  | true => rfl
  | false => rw [chk_none hk] at h; omega
theorem dec_enc {C : Cks} (hC : C.Ok) {m : Mg} (hw : m.Wf) (h : chkM C m = 0) : decN C (encL m) = (plainM m, (encL m).length, 0) := by
  have h0 : Ah ⟨encL m, 0, 0⟩ (intL m.k ++ (bodL m ++ [])) [] := ⟨rfl, Nat.zero_le _, by show (encL m).drop 0 = _; simp [encL]⟩
  obtain ⟨h1, h2, h3⟩ := bInt hw.k ⟨encL m, 0, 0⟩ (bodL m ++ []) [] h0
  obtain ⟨k1, k2, k3⟩ := bBod hC hw h (rInt ⟨encL m, 0, 0⟩).1 [] [] h2
  have hat : ¬ (rdK m.k (rInt ⟨encL m, 0, 0⟩).1).1.at_ < (rdK m.k (rInt ⟨encL m, 0, 0⟩).1).1.s.length := by
    have := congrArg List.length k2.is
    rw [List.length_drop] at this
    simp at this
    omega
  have he := k2.e
  have hE : rEnd (rdK m.k (rInt ⟨encL m, 0, 0⟩).1).1 = ((rdK m.k (rInt ⟨encL m, 0, 0⟩).1).1, true) := by
    unfold rEnd
    rw [if_neg hat]
    simp [he]
  unfold decN
  rw [h1, if_neg (by simpa using h2.e), if_neg (by rw [chk_kind h]; simp), hE, if_neg (by simpa using he), k1, if_neg (by rw [chk_plain]; simpa using h)]
/-- a call that leaves no fault tells what just so many bytes say -/
def Fw {α : Type} (f : Rd → Rd × α) (P : α → List UInt8 → Prop) : Prop := ∀ r, r.Ok → (f r).1.Ok ∧ (f r).1.s = r.s ∧ (r.e ≠ 0 → (f r).1 = r) ∧ ((f r).1.e = 0 → ∃ l, r.s.drop r.at_ = l ++ r.s.drop (f r).1.at_ ∧ P (f r).2 l)
theorem fMono {α : Type} {f : Rd → Rd × α} {P Q : α → List UInt8 → Prop} (h : Fw f P) (hq : ∀ x l, P x l → Q x l) : Fw f Q := fun r hr => by
  obtain ⟨h1, h2, h3, h4⟩ := h r hr
  refine ⟨h1, h2, h3, fun he => ?_⟩
  obtain ⟨l, hl, hp⟩ := h4 he
  exact ⟨l, hl, hq _ _ hp⟩
theorem fRet {α : Type} (v : α) : Fw (fun r => (r, v)) (fun y l => y = v ∧ l = []) := fun r hr => ⟨hr, rfl, fun _ => rfl, fun _ => ⟨[], rfl, rfl, rfl⟩⟩
theorem fThn {α β : Type} {f : Rd → Rd × α} {g : α → Rd → Rd × β} {P : α → List UInt8 → Prop} {Q : α → β → List UInt8 → Prop} (hf : Fw f P) (hg : ∀ x, Fw (g x) (Q x)) : Fw (fun r => thn (f r) g) (fun y l => ∃ x l1 l2, l = l1 ++ l2 ∧ P x l1 ∧ Q x y l2) := fun r hr => by
  obtain ⟨h1, h2, h3, h4⟩ := hf r hr
  obtain ⟨k1, k2, k3, k4⟩ := hg (f r).2 (f r).1 h1
  show (g (f r).2 (f r).1).1.Ok ∧ (g (f r).2 (f r).1).1.s = r.s ∧ (r.e ≠ 0 → (g (f r).2 (f r).1).1 = r) ∧ ((g (f r).2 (f r).1).1.e = 0 → ∃ l, r.s.drop r.at_ = l ++ r.s.drop (g (f r).2 (f r).1).1.at_ ∧ _)
  refine ⟨k1, k2.trans h2, fun he => ?_, fun he => ?_⟩
  · rw [k3 (by rw [h3 he]; exact he), h3 he]
  · have h0 : (f r).1.e = 0 := by
      apply Classical.byContradiction
      intro hn
      rw [k3 hn] at he
      exact hn he
    obtain ⟨l1, e1, p1⟩ := h4 h0
    obtain ⟨l2, e2, p2⟩ := k4 he
    rw [h2] at e2
    exact ⟨l1 ++ l2, by rw [e1, e2, List.append_assoc], (f r).2, l1, l2, rfl, p1, p2⟩
theorem fEq {α : Type} {f g : Rd → Rd × α} {P : α → List UInt8 → Prop} (h : Fw g P) (e : ∀ r, f r = g r) : Fw f P := fun r hr => by rw [e]; exact h r hr
theorem fUint : Fw rUint (fun n l => l = uintL n ∧ n < 18446744073709551616) := fun r hr => by
  obtain ⟨h1, h2, h3, h4⟩ := rUint_ok hr
  refine ⟨h1, h2, fun he => by rw [rUint_bad he], fun he => ?_⟩
  have h0 : r.e = 0 := by
    apply Classical.byContradiction
    intro hn
    rw [rUint_bad hn] at he
    exact hn he
  by_cases hu : (rdU (r.s.drop r.at_)).1 = 0
  · have e : rUint r = ({ r with at_ := r.at_ + (rdU (r.s.drop r.at_)).2.2 }, (rdU (r.s.drop r.at_)).2.1) := by unfold rUint; rw [if_neg (by simpa using h0), if_pos hu]
    have hk := rdU_ok (s := r.s.drop r.at_) (m := (rdU (r.s.drop r.at_)).2.1) (j := (rdU (r.s.drop r.at_)).2.2) (by rw [← hu])
    refine ⟨uintL (rUint r).2, ?_, rfl, h4⟩
    rw [e]
    show r.s.drop r.at_ = uintL (rdU (r.s.drop r.at_)).2.1 ++ r.s.drop (r.at_ + (rdU (r.s.drop r.at_)).2.2)
    rw [hk.2.1, ← List.drop_drop, List.take_append_drop]
  · exfalso
    unfold rUint at he
    rw [if_neg (by simpa using h0), if_neg hu] at he
    exact hu he
theorem fInt : Fw rInt (fun n l => l = intL n ∧ I64 n) := fun r hr => by
  obtain ⟨h1, h2, h3, h4⟩ := fUint r hr
  refine ⟨h1, h2, h3, fun he => ?_⟩
  obtain ⟨l, e, p1, p2⟩ := h4 he
  refine ⟨l, e, ?_, un_in p2⟩
  rw [p1]
  show _ = uintL (fo (un (rUint r).2))
  rw [fo_un]
theorem fCount (m : Int) : Fw (fun r => rCount r m) (fun n l => l = uintL n ∧ (n : Int) ≤ m ∧ n < 18446744073709551616) := fun r hr => by
  obtain ⟨h1, h2, h3, h4⟩ := fUint r hr
  have ho := rCount_ok hr m
  refine ⟨ho.1, ho.2, fun he => by show (rCount r m).1 = r; rw [rCount_bad he], fun he => ?_⟩
  change (rCount r m).1.e = 0 at he
  have hu : (rUint r).1.e = 0 := by
    apply Classical.byContradiction
    intro hn
    unfold rCount at he
    rw [if_pos hn] at he
    exact hn he
  have h0 : r.e = 0 := by
    apply Classical.byContradiction
    intro hn
    rw [rUint_bad hn] at hu
    exact hn hu
  have hle : ¬ (((rUint r).2 : Nat) : Int) > m := by
    intro hgt
    unfold rCount at he
    rw [if_neg (by simpa using hu), if_pos hgt] at he
    simp [Rd.fl, h0] at he
  have e : rCount r m = rUint r := by unfold rCount; rw [if_neg (by simpa using hu), if_neg hle]
  obtain ⟨l, e1, p1, p2⟩ := h4 hu
  refine ⟨l, ?_, ?_, ?_, ?_⟩
  · show r.s.drop r.at_ = l ++ r.s.drop (rCount r m).1.at_; rw [e]; exact e1
  · show l = uintL (rCount r m).2; rw [e]; exact p1
  · show ((rCount r m).2 : Int) ≤ m; rw [e]; omega
  · show (rCount r m).2 < _; rw [e]; exact p2
theorem fText (m : Int) : Fw (fun r => rText r m) (fun t l => l = textL t ∧ (t.length : Int) ≤ m) := fun r hr => by
  obtain ⟨h1, h2, h3, h4⟩ := fCount m r hr
  have ho := rText_ok hr m
  refine ⟨ho.1, ho.2, fun he => by show (rText r m).1 = r; rw [rText_bad he], fun he => ?_⟩
  change (rText r m).1.e = 0 at he
  change (rCount r m).1.e = 0 → _ at h4
  have hu : (rCount r m).1.e = 0 := by
    apply Classical.byContradiction
    intro hn
    unfold rText at he
    rw [if_pos hn] at he
    exact hn he
  have h0 : r.e = 0 := by
    apply Classical.byContradiction
    intro hn
    rw [rCount_bad hn] at hu
    exact hn hu
  have hle : ¬ r.s.length < (rCount r m).1.at_ + (rCount r m).2 := by
    intro hgt
    unfold rText at he
    rw [if_neg (by simpa using hu), if_pos hgt] at he
    simp [Rd.fl, h0] at he
  have e : rText r m = ({ r with at_ := (rCount r m).1.at_ + (rCount r m).2 }, (r.s.drop (rCount r m).1.at_).take (rCount r m).2) := by unfold rText; rw [if_neg (by simpa using hu), if_neg hle]
  obtain ⟨l, e1, p1, p2, p3⟩ := h4 hu
  change r.s.drop r.at_ = l ++ r.s.drop (rCount r m).1.at_ at e1
  change l = uintL (rCount r m).2 at p1
  change ((rCount r m).2 : Int) ≤ m at p2
  have hl : ((r.s.drop (rCount r m).1.at_).take (rCount r m).2).length = (rCount r m).2 := by rw [List.length_take, List.length_drop]; omega
  refine ⟨l ++ (r.s.drop (rCount r m).1.at_).take (rCount r m).2, ?_, ?_, ?_⟩
  · show r.s.drop r.at_ = _ ++ r.s.drop (rText r m).1.at_
    rw [e, e1, List.append_assoc]
    show _ = l ++ (_ ++ r.s.drop ((rCount r m).1.at_ + (rCount r m).2))
    rw [← List.drop_drop, List.take_append_drop]
  · show _ = textL (rText r m).2
    rw [e, p1]
    show _ = uintL ((r.s.drop (rCount r m).1.at_).take (rCount r m).2).length ++ _
    rw [hl]
  · show ((rText r m).2.length : Int) ≤ m
    rw [e]
    show (((r.s.drop (rCount r m).1.at_).take (rCount r m).2).length : Int) ≤ m
    rw [hl]
    exact p2
theorem fBool : Fw rBool (fun b l => l = boolL b) := fun r hr => by
  have ho := rBool_ok hr
  refine ⟨ho.1, ho.2, fun he => by rw [rBool_bad he], fun he => ?_⟩
  have h0 : r.e = 0 := by
    apply Classical.byContradiction
    intro hn
    rw [rBool_bad hn] at he
    exact hn he
  cases hc : r.s[r.at_]? with
  | none =>
    exfalso
    unfold rBool at he
    rw [if_neg (by simpa using h0), hc] at he
    simp at he
  | some c =>
    by_cases h1 : 1 < c.toNat
    · exfalso
      unfold rBool at he
      rw [if_neg (by simpa using h0), hc] at he
      simp [h1] at he
    · have e : rBool r = ({ r with at_ := r.at_ + 1 }, c.toNat == 1) := by unfold rBool; rw [if_neg (by simpa using h0), hc]; simp [h1]
      obtain ⟨hlt, hce⟩ := List.getElem?_eq_some_iff.1 hc
      refine ⟨[c], ?_, ?_⟩
      · rw [e, List.drop_eq_getElem_cons hlt, hce]
        rfl
      · rw [e]
        have hcl := c.toNat_lt
        unfold boolL
        by_cases h2 : c.toNat = 1
        · rw [show c = 1 from UInt8.toNat_inj.mp h2]; rfl
        · rw [show c = 0 from UInt8.toNat_inj.mp (by show c.toNat = 0; omega)]; rfl
end Go.Proofs.YtdmlgheajblcdaaGreat
