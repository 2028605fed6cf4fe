/- The walk of Share of package fixnum. Conditions: the arguments are ints; each product has no upper word, or Div64 of math/bits divides as it should. -/
import Derived.Test.YtjjcjgighdidcaaF
import Derived.WalkKit
import Derived.ProofKit
import Derived.Handy
import Derived.WalkLawsBesides
import Derived.WalkSpells
import Derived.BigQuiet
import Derived.Deep.QuietTactic
import Derived.Deep.Light
import Derived.Deep.OwnRows
namespace Go.Proofs.Ytjjcjgighdidcaa
open Go.RowKit
set_option linter.unusedVariables false
set_option linter.unusedSimpArgs false
/-- the parts, rounded down -/
def parts (amount T : Int) (xs : List Int) : List Int := xs.map (fun x => amount * x / T)
def shareE (amount : Int) (xs : List Int) : Int := if amount < 0 ∨ goodB xs = false then 1 else if sumE 0 xs ≠ 0 then sumE 0 xs else if sumS 0 xs = 0 then 6 else 0
def shareL (amount : Int) (xs : List Int) : List Int := if shareE amount xs = 0 then giveS (parts amount (sumS 0 xs) xs) xs (amount - (parts amount (sumS 0 xs) xs).sum) else []

theorem sumE_or (s : Int) (xs : List Int) : sumE s xs = 0 ∨ sumE s xs = 9 := by
  induction xs generalizing s with
  | nil => exact Or.inl rfl
  | cons x xs ih => unfold sumE; split; exact ih _; exact Or.inr rfl
theorem sum_ok (s : Int) (xs : List Int) (h : sumE s xs = 0) : sumS s xs = s + xs.sum := by
  induction xs generalizing s with
  | nil => simp [sumS]
  | cons x xs ih =>
    unfold sumE at h
    unfold sumS
    split at h
    · rw [if_pos (by assumption), ih _ h, List.sum_cons]; omega
    · omega
theorem sumS_range (s : Int) (xs : List Int) (hs : -9223372036854775808 ≤ s ∧ s ≤ 9223372036854775807) : -9223372036854775808 ≤ sumS s xs ∧ sumS s xs ≤ 9223372036854775807 := by
  induction xs generalizing s with
  | nil => exact hs
  | cons x xs ih => unfold sumS; split; exact ih _ (by assumption); omega

theorem sum_nonneg (xs : List Int) (h : ∀ x ∈ xs, 0 ≤ x) : 0 ≤ xs.sum := by
  induction xs with
  | nil => simp
  | cons x xs ih =>
    have := ih fun y hy => h y (List.mem_cons_of_mem _ hy)
    have := h x (List.mem_cons_self ..)
    rw [List.sum_cons]; omega
/-- a part of the list has no greater sum -/
theorem sum_part (xs : List Int) (h : ∀ x ∈ xs, 0 ≤ x) (k : Nat) : (xs.take k).sum ≤ xs.sum := by
  have := sum_nonneg (xs.drop k) fun x hx => h x (List.mem_of_mem_drop hx)
  have e : xs.sum = (xs.take k).sum + (xs.drop k).sum := by rw [← List.sum_append, List.take_append_drop]
  omega
theorem mem_le_sum (xs : List Int) (h : ∀ x ∈ xs, 0 ≤ x) (x : Int) (hx : x ∈ xs) : x ≤ xs.sum := by
  induction xs with
  | nil => cases hx
  | cons y ys ih =>
    have h1 := h y (List.mem_cons_self ..)
    have h2 := sum_nonneg ys fun z hz => h z (List.mem_cons_of_mem _ hz)
    rw [List.sum_cons]
    cases List.mem_cons.1 hx with
    | inl e => subst e; omega
    | inr e => have := ih (fun z hz => h z (List.mem_cons_of_mem _ hz)) e; omega
/-- the parts' sum, times T, is at most the amount times the weights' sum -/
theorem parts_sum (amount T : Int) (hT : 0 < T) (xs : List Int) : (parts amount T xs).sum * T ≤ amount * xs.sum := by
  induction xs with
  | nil => simp [parts]
  | cons x xs ih =>
    have h1 : amount * x / T * T ≤ amount * x := Int.ediv_mul_le _ (by omega)
    simp only [parts, List.map_cons, List.sum_cons] at *
    rw [Int.add_mul, Int.mul_add]
    omega
theorem parts_take (amount T : Int) (xs : List Int) (k : Nat) : (parts amount T xs).take k = parts amount T (xs.take k) := by
  simp [parts, List.map_take]
theorem parts_le (amount T : Int) (h0 : 0 ≤ amount) (hT : 0 < T) (xs : List Int) (h : ∀ x ∈ xs, 0 ≤ x) (hs : xs.sum ≤ T) : (parts amount T xs).sum ≤ amount := by
  have h1 := parts_sum amount T hT xs
  have h2 : amount * xs.sum ≤ amount * T := Int.mul_le_mul_of_nonneg_left hs h0
  exact Int.le_of_mul_le_mul_right (Int.le_trans h1 h2) hT
theorem parts_nonneg (amount T : Int) (h0 : 0 ≤ amount) (hT : 0 < T) (xs : List Int) (h : ∀ x ∈ xs, 0 ≤ x) : ∀ y ∈ parts amount T xs, 0 ≤ y := by
  intro y hy
  obtain ⟨x, hx, rfl⟩ := List.mem_map.1 hy
  exact Int.ediv_nonneg (Int.mul_nonneg h0 (h x hx)) (by omega)

/-- one part, as MulDiv tells it -/
theorem part_md (amount x T : Int) (h0 : 0 ≤ amount ∧ amount ≤ 9223372036854775807) (hx : 0 ≤ x ∧ x ≤ T) (hT : 0 < T) : mdS amount x T 1 = amount * x / T := by
  have hn : negB amount x T = false := by
    unfold negB
    rw [decide_eq_false (by omega), decide_eq_false (by omega), decide_eq_false (by omega)]
    rfl
  have e1 : (amount.natAbs : Int) = amount := by omega
  have e2 : (x.natAbs : Int) = x := by omega
  have e3 : (T.natAbs : Int) = T := by omega
  have hle : amount * x / T ≤ amount := by
    have h1 : amount * x / T * T ≤ amount * x := Int.ediv_mul_le _ (by omega)
    have h2 : amount * x ≤ amount * T := Int.mul_le_mul_of_nonneg_left hx.2 h0.1
    exact Int.le_of_mul_le_mul_right (Int.le_trans h1 h2) hT
  have hge : 0 ≤ amount * x / T := Int.ediv_nonneg (Int.mul_nonneg h0.1 hx.1) (by omega)
  have ha : ∀ r d b, awayB 1 r d b false = false := by intro r d b; simp [awayB]
  rw [mdS, if_neg (by omega), mdN, hn, mdQ, e1, e2, e3, hn, ha, if_neg (by simp), sgnd, if_neg (by simp), fitS, if_pos (by omega)]

def SharePost (amount : Int) (xs : List Int) (w : World) (e : Ending) (w' : World) : Prop :=
  ∃ v, e = .returned (.tuple #[v, .int .i64 (shareE amount xs)]) ∧ Seg w' v (shareL amount xs) ∧ Below w.heap.size w w'

theorem seg_nil (w : World) : Seg w (.slice none 0 0) [] := ⟨none, 0, rfl, fun h => absurd rfl h⟩

theorem ret_share {v : Value} {a b : Int} (h : a = b) : Ending.returned (.tuple #[v, .int .i64 a]) = .returned (.tuple #[v, .int .i64 b]) := by rw [h]

theorem share_bad (amount : Int) (xs : List Int) (w w' : World) (n : Int) (hn : n ≠ 0) (h : shareE amount xs = n) (hb : Below w.heap.size w w') : SharePost amount xs w (.returned (.tuple #[.slice none 0 0, .int .i64 n])) w' := by
  refine ⟨_, ret_share h.symm, ?_, hb⟩
  rw [shareL, if_neg (by rw [h]; exact hn)]
  exact seg_nil w'

theorem Try.info3 : (Try.prog.info? 3).map (fun i => (i.zero, i.size, i.bytes)) = some (some (.int .i64 0), 1, 8) := by kernel_rfl

theorem made_zeros (k : IntKind) (n : Nat) : madeCells #[Value.int k 0] n = ((List.replicate n (0 : Int)).map (Value.int k)).toArray := by
  apply Array.ext
  · simp [madeCells]
  · intro i h1 h2
    simp [madeCells, Nat.mod_one]

theorem xshare_bad (amount : Int) (xs : List Int) (v : Value) (w : World) (ha : -9223372036854775808 ≤ amount ∧ amount ≤ 9223372036854775807) (hx : Ints xs) (hv : Seg w v xs) (he : shareE amount xs ≠ 0) :
    Calls Try.prog 32 #[.int .i64 amount, v] w (SharePost amount xs w) := by
  by_cases h1 : amount < 0
  · have H1 : Hid (shareE amount xs = 1) := if_pos (Or.inl h1)
    clear hx hv he
    go_enter Try.func32, Try.ntmps32
    go_wp2
    go_ret2
    exact share_bad amount xs w w 1 (by decide) H1.out (Below.refl _ _)
  have HX : Hid _ := hx
  have HV : Hid _ := hv
  have HE : Hid _ := he
  clear hx hv he
  go_enter Try.func32, Try.ntmps32
  go_wp2_with fail
  refine (xgood xs v _ HX.out HV.out).mono ?_
  rintro e w1 ⟨rfl, rfl⟩
  cases hg : goodB xs
  · have H1 : Hid (shareE amount xs = 1) := if_pos (Or.inr hg)
    clear hg
    go_wp2
    go_ret2
    exact share_bad amount xs w w 1 (by decide) H1.out (Below.refl _ _)
  have HG : Hid _ := hg
  clear hg
  go_wp2_with fail
  refine (xsum xs v _ HX.out HV.out).mono ?_
  rintro e w1 ⟨rfl, rfl⟩
  have hs : sumE 0 xs ≠ 0 ∨ sumS 0 xs = 0 := by
    by_cases h3 : sumE 0 xs ≠ 0
    · exact Or.inl h3
    by_cases h4 : sumS 0 xs = 0
    · exact Or.inr h4
    exact absurd (by rw [shareE, if_neg (by rw [HG.out]; simp; omega), if_neg h3, if_neg h4]) HE.out
  by_cases h3 : sumE 0 xs = 0
  · have h4 : sumS 0 xs = 0 := by omega
    have H1 : Hid (shareE amount xs = 6) := by rw [shareE, if_neg (by rw [HG.out]; simp; omega), if_neg (by omega), if_pos h4]; rfl
    rw [h3, h4]
    clear h3 h4 hs
    go_wp2
    go_ret2
    exact share_bad amount xs w w 6 (by decide) H1.out (Below.refl _ _)
  · have h9 : sumE 0 xs = 9 := (sumE_or 0 xs).resolve_left h3
    have H1 : Hid (shareE amount xs = 9) := by rw [shareE, if_neg (by rw [HG.out]; simp; omega), if_pos h3, h9]; rfl
    rw [h9]
    clear h3 h9 hs
    go_wp2
    go_ret2
    exact share_bad amount xs w w 9 (by decide) H1.out (Below.refl _ _)

/-- what the loop of Share keeps: k parts are laid -/
def ShareRel (amount T : Int) (xs : List Int) (g : Nat) (w : World) (k : Nat) (t : Int) (wr : World) : Prop :=
  Row wr g .i64 3 ((parts amount T xs).take k ++ List.replicate (xs.length - k) 0) ∧ w.heap.size ≤ g ∧ Below w.heap.size w wr ∧ t = amount - ((parts amount T xs).take k).sum

theorem ShareRel.step {amount T : Int} {xs : List Int} {g : Nat} {w : World} {k : Nat} {t : Int} {wr w1 : World} (h : ShareRel amount T xs g w k t wr) (hk : k < xs.length) (hb : Below wr.heap.size wr w1) :
    ShareRel amount T xs g w (k + 1) (t - amount * xs.getD k 0 / T) (w1.setCell ⟨g, k, none⟩ (.int .i64 (amount * xs.getD k 0 / T))) := by
  obtain ⟨h1, h2, h3, h4⟩ := h
  have hlen : (parts amount T xs).length = xs.length := by simp [parts]
  have hget : (parts amount T xs).getD k 0 = amount * xs.getD k 0 / T := by simp [parts, hk]
  refine ⟨?_, h2, (h3.trans (hb.mono h3.size)).setCell h2 _, ?_⟩
  · have h5 := (h1.below hb h1.lt).set k (amount * xs.getD k 0 / T)
    have e : (((parts amount T xs).take k ++ List.replicate (xs.length - k) 0).set k (amount * xs.getD k 0 / T)) = (parts amount T xs).take (k + 1) ++ List.replicate (xs.length - (k + 1)) 0 := by
      rw [take_getD _ k (by omega), hget, show xs.length - k = (xs.length - (k + 1)) + 1 by omega, List.replicate_succ, List.set_append_right _ _ (by simp; omega)]
      simp [show k - min k (parts amount T xs).length = 0 by omega]
    rw [e] at h5
    exact h5
  · rw [take_getD _ k (by omega), hget, List.sum_append, h4]
    simp
    omega

theorem ShareRel.cell {amount T : Int} {xs : List Int} {g : Nat} {w : World} {k : Nat} {t : Int} {wr w1 : World} (h : ShareRel amount T xs g w k t wr) (hk : k < xs.length) (hb : Below wr.heap.size wr w1) :
    (∃ u, w1.cell? ⟨g, k, none⟩ = some (.int .i64 u)) ∧ w1.frozen? ⟨g, k, none⟩ = false := by
  have h5 := h.1.below hb h.1.lt
  exact ⟨⟨_, h5.cell k (by simp [parts]; omega)⟩, h5.frozen k⟩

theorem giveS_length (ys xs : List Int) (l : Int) : (giveS ys xs l).length = ys.length := by
  induction ys generalizing xs l with
  | nil => simp [giveS]
  | cons y ys ih =>
    cases xs with
    | nil => simp [giveS]
    | cons x xs =>
      unfold giveS
      split
      · rfl
      · split <;> simp [ih]

theorem xshare_good (amount : Int) (xs : List Int) (b off cap : Nat) (w : World) (ha : 0 ≤ amount ∧ amount ≤ 9223372036854775807) (hx : Ints xs) (hbw : b < w.heap.size) (hc : ∀ j, j < xs.length → w.cell? ⟨b, off + j, none⟩ = some (.int .i64 (xs.getD j 0)))
    (hg : goodB xs = true) (hs : sumE 0 xs = 0) (hT : 0 < sumS 0 xs) (H : (∀ x ∈ xs, amount * x < 18446744073709551616) ∨ Div64Said) :
    Calls Try.prog 32 #[.int .i64 amount, .slice (some ⟨b, off, none⟩) xs.length cap] w (SharePost amount xs w) := by
  have hseg : Seg w (.slice (some ⟨b, off, none⟩) xs.length cap) xs := ⟨_, _, rfl, fun _ => ⟨b, off, rfl, hbw, hc⟩⟩
  obtain ⟨h64, hpos⟩ := goodB_iff xs hg
  have hmem : ∀ x ∈ xs, 0 ≤ x := by
    intro x hx
    obtain ⟨j, hj, rfl⟩ := List.mem_iff_getElem.1 hx
    have := hpos j
    simpa [hj] using this
  have hTr := sumS_range 0 xs (by omega)
  have hTs : sumS 0 xs = xs.sum := by rw [sum_ok 0 xs hs]; omega
  have hl63 : xs.length ≤ 9223372036854775807 := by omega
  have hmk := run_make_row' (P := Try.prog) 52 3 (.int .i64 0) 8 Try.underlying52 Try.info3 rfl .i64 .i64 xs.length (by omega) hl63
  have HX : Hid _ := hx
  have HV : Hid _ := hseg
  have HG : Hid _ := hg
  have HS : Hid _ := hs
  have HC : Hid _ := hc
  have HH : Hid _ := H
  have HP : Hid _ := hpos
  have HM : Hid _ := hmem
  clear hx hseg hg hs hc H hpos hmem
  go_enter Try.func32, Try.ntmps32
  go_wp2_with fail
  refine (xgood xs _ _ HX.out HV.out).mono ?_
  rintro e w1 ⟨rfl, rfl⟩
  rw [HG.out]
  go_wp2_with fail
  refine (xsum xs _ _ HX.out HV.out).mono ?_
  rintro e w1 ⟨rfl, rfl⟩
  rw [HS.out]
  generalize hTT : sumS 0 xs = T at hT hTr hTs
  have HTT : Hid _ := hTT
  have HTs : Hid _ := hTs
  have hT0 : (T == 0) = false := by simp; omega
  clear hTT hTs
  go_wp2_with fail
  go_loopw [9, 35] (fun li i wr => ∃ k : Nat, ∃ t : Int, k ≤ xs.length ∧ i = .int .i64 k ∧ li = .int .i64 t ∧ (0 ≤ t ∧ t ≤ amount) ∧ ShareRel amount T xs w.heap.size w k t wr)
    (fun _ i _ => xs.length - (intOf i).toNat)
  case atStart =>
    refine ⟨0, amount, by omega, rfl, rfl, by omega, ?_, Nat.le_refl _, Below.alloc (Below.refl _ _) (Nat.le_refl _) _, by simp⟩
    rw [made_zeros]
    simpa using Row.new w (List.replicate xs.length 0) .i64 3
  case round =>
    obtain ⟨k, t, hk, rfl, rfl, ht, hs⟩ := hrel
    have hcell : k < xs.length → wr.cell? ⟨b, off + k, none⟩ = some (.int .i64 (xs.getD k 0)) := fun _ => (hs.2.2.1.cell hbw).trans (HC.out k (by omega))
    have hxk0 : k < xs.length → xs.getD k 0 ∈ xs := fun h => by simp [h]
    have hxT : k < xs.length → 0 ≤ xs.getD k 0 ∧ xs.getD k 0 ≤ T := fun h => ⟨HP.out k, by rw [HTs.out]; exact mem_le_sum xs HM.out _ (hxk0 h)⟩
    have hsm : k < xs.length → Hid (amount * xs.getD k 0 < 18446744073709551616 ∨ Div64Said) := fun h => HH.out.imp (fun q => q _ (hxk0 h)) id
    have hstep : k < xs.length → Hid (0 ≤ amount * xs.getD k 0 / T ∧ 0 ≤ t - amount * xs.getD k 0 / T) := fun h => by
      have h1 := hs.2.2.2
      have hlen : (parts amount T xs).length = xs.length := by simp [parts]
      have hget : (parts amount T xs).getD k 0 = amount * xs.getD k 0 / T := by simp [parts, h]
      have h2 : ((parts amount T xs).take (k + 1)).sum ≤ amount := by
        rw [parts_take]
        refine parts_le amount T ha.1 hT _ (fun x hx => HM.out x (List.mem_of_mem_take hx)) ?_
        rw [HTs.out]
        exact sum_part xs HM.out (k + 1)
      rw [take_getD _ k (by omega), hget, List.sum_append] at h2
      simp only [List.sum_cons, List.sum_nil] at h2
      exact ⟨Int.ediv_nonneg (Int.mul_nonneg ha.1 (HP.out k)) (by omega), by omega⟩
    clear hxk0
    generalize hxk : xs.getD k 0 = x at hcell hxT hsm hstep
    have Hx : Hid _ := hxk
    clear hxk
    have Hstep : Hid _ := hstep
    have Hsm : Hid _ := hsm
    have HxT : Hid _ := hxT
    clear hstep hsm hxT
    go_wp2_with fail
    · have hlt : k < xs.length := by assumption
      have hx1 := HxT.out hlt
      refine (xmuldiv amount x T 1 (by omega) (by omega) (by omega) _ ?_).mono ?_
      · refine (Hsm.out hlt).out.imp (fun h => ?_) id
        rw [show (amount.natAbs : Int) = amount by omega, show (x.natAbs : Int) = x by omega]
        exact h
      rintro e w1 ⟨rfl, hb1⟩
      rw [part_md amount x T ha hx1 hT]
      have h8 := (Hstep.out hlt).out
      have hst := hs.step hlt hb1
      obtain ⟨⟨u, hcu⟩, hfu⟩ := hs.cell hlt hb1
      rw [Hx.out] at hst
      generalize amount * x / T = p at h8 hst
      have Hst : Hid _ := hst
      clear hst hs hb1
      go_wp2
      exact ⟨⟨k + 1, t - p, hlt, by go_num, rfl, by omega, Hst.out⟩, by simp [intOf]; omega⟩
    · obtain rfl : k = xs.length := by omega
      obtain ⟨h1, -, h3, h4⟩ := hs
      have hlen : (parts amount T xs).length = xs.length := by simp [parts]
      rw [← hlen, List.take_length] at h1 h4
      rw [Nat.sub_self, List.replicate_zero, List.append_nil] at h1
      have hpn := parts_nonneg amount T ha.1 hT xs HM.out
      refine (xgive_row (parts amount T xs) xs t w.heap.size xs.length b off cap _ hl63 hlen (by omega) (fun j => ?_) h1 (by omega) (fun j hj => (h3.cell hbw).trans (HC.out j hj))).mono ?_
      · by_cases hj : j < (parts amount T xs).length
        · have hm : (parts amount T xs).getD j 0 ∈ parts amount T xs := by simp [hj]
          have := hpn _ hm
          have := mem_le_sum _ hpn _ hm
          omega
        · rw [List.getD_eq_getElem?_getD, List.getElem?_eq_none (by omega)]
          simp
          omega
      rintro e w2 ⟨rfl, hr2, ho2⟩
      have Hr2 : Hid _ := hr2
      have Ho2 : Hid _ := ho2
      have H3 : Hid _ := h3
      have H4 : Hid _ := h4
      clear hr2 ho2 h3 h1 h4 hpn
      go_wp2
      go_ret2
      have hE : shareE amount xs = 0 := by rw [shareE, if_neg (by rw [HG.out]; simp; omega), if_neg (by rw [HS.out]; simp), if_neg (by rw [HTT.out]; omega)]
      have hL : shareL amount xs = giveS (parts amount T xs) xs t := by rw [shareL, if_pos hE, HTT.out, H4.out]
      refine ⟨_, ret_share hE.symm, ?_, Ho2.out.below H3.out (Nat.le_refl _)⟩
      have h9 : Row w2 w.heap.size .i64 3 (shareL amount xs) := by rw [hL]; exact Hr2.out
      have h10 : (shareL amount xs).length = xs.length := by rw [hL, giveS_length, hlen]
      rw [← h10]
      exact Row.seg h9 _

theorem xshare (amount : Int) (xs : List Int) (v : Value) (w : World) (ha : -9223372036854775808 ≤ amount ∧ amount ≤ 9223372036854775807) (hx : Ints xs) (hv : Seg w v xs) (H : (∀ x ∈ xs, amount * x < 18446744073709551616) ∨ Div64Said) :
    Calls Try.prog 32 #[.int .i64 amount, v] w (SharePost amount xs w) := by
  by_cases he : shareE amount xs = 0
  · have h0 : ¬ (amount < 0 ∨ goodB xs = false) := fun h => by rw [shareE, if_pos h] at he; cases he
    rw [shareE, if_neg h0] at he
    have h1 : sumE 0 xs = 0 := by
      rcases sumE_or 0 xs with h | h
      · exact h
      · rw [if_pos (by omega)] at he; exact he
    rw [if_neg (by omega)] at he
    have h2 : sumS 0 xs ≠ 0 := fun h => by rw [if_pos h] at he; cases he
    have hg : goodB xs = true := by
      cases h : goodB xs
      · exact absurd (Or.inr h) h0
      · rfl
    obtain ⟨a, cap, rfl, h⟩ := hv
    have hne : xs ≠ [] := fun e => by subst e; exact h2 rfl
    obtain ⟨b, off, rfl, hb, hc⟩ := h hne
    obtain ⟨-, hpos⟩ := goodB_iff xs hg
    have hmem : ∀ x ∈ xs, 0 ≤ x := by
      intro x hx
      obtain ⟨j, hj, rfl⟩ := List.mem_iff_getElem.1 hx
      have := hpos j
      simpa [hj] using this
    have h5 := sum_ok 0 xs h1
    have h6 := sum_nonneg xs hmem
    exact xshare_good amount xs b off cap w ⟨by omega, ha.2⟩ hx hb hc hg h1 (by omega) H
  · exact xshare_bad amount xs v w ha hx hv he
end Go.Proofs.Ytjjcjgighdidcaa
