/- trim and Open. -/
import Derived.Test.YteiilifljfagdaaL
import Derived.WalkKit
import Derived.ProofKit
import Derived.Handy
import Derived.WalkLawsBesides
import Derived.WalkSpells
import Derived.BigQuiet
import Derived.BigCall
import Derived.Deep.QuietTactic
import Derived.Deep.Light
import Derived.Deep.OwnRows
import Derived.Laws.AppendOwnNone
import Derived.Laws.Strings3
import Derived.Laws.RangeAny
import Derived.Deep.RegionWith
import Derived.Lib.BitFns
import Derived.Lib.Walk
import Derived.Lib.Strings
import Derived.Lib.OthersKept
import Derived.Deep.CutBlock
import Derived.Deep.DeepCutAuto
import Derived.Deep.LoopGhost
import Derived.Deep.RegionHeld3
import Derived.Lib.SmallJoins
import Derived.Maps.AppendAt
import Derived.Laws.IdiomStrings
import Derived.Lib.AppendZeros
import Derived.Deep.WholeRow
import Derived.Laws.BitsAllLaws
import Derived.Lib.ConvBytes
namespace Go.Proofs.Yteiilifljfagdaa
open Go.RowKit
set_option linter.unusedVariables false
set_option linter.unusedSimpArgs false
theorem pick_at {S : St} {f : Nat} {j : Jn} (h : pick S = some (f, j)) : f ≤ 1 ∧ look (fl S f) = some j := by
  unfold pick at h
  cases h0 : look (fl S 0) with
  | none =>
    cases h1 : look (fl S 1) with
    | none => rw [h0, h1] at h; cases h
    | some b =>
      rw [h0, h1] at h
      injection h with h
      injection h with e1 e2
      subst e1; subst e2
      exact ⟨by omega, h1⟩
  | some a =>
    cases h1 : look (fl S 1) with
    | none =>
      rw [h0, h1] at h
      injection h with h
      injection h with e1 e2
      subst e1; subst e2
      exact ⟨by omega, h0⟩
    | some b =>
      rw [h0, h1] at h
      by_cases hc : a.gen < b.gen
      · have h' : (if a.gen < b.gen then some (1, b) else some (0, a)) = some (f, j) := h
        rw [if_pos hc] at h'
        injection h' with h'
        injection h' with e1 e2
        subst e1; subst e2
        exact ⟨by omega, h1⟩
      · have h' : (if a.gen < b.gen then some (1, b) else some (0, a)) = some (f, j) := h
        rw [if_neg hc] at h'
        injection h' with h'
        injection h' with e1 e2
        subst e1; subst e2
        exact ⟨by omega, h0⟩
theorem look_fin {s : List UInt8} {j : Jn} (h : look s = some j) : j.fin ≤ s.length := by
  rw [look_prs] at h
  obtain ⟨x, _, he⟩ := Option.map_eq_some_iff.1 h
  rw [← he]
  exact (rdA_len s).2
def trm (S : St) (f n : Nat) : St × Int := if n < (S.f f).size then ctf S f n else (S, 0)
theorem trm_ok {S : St} (h : Ok S) (f n : Nat) : Ok (trm S f n).1 := by
  unfold trm
  by_cases hc : n < (S.f f).size
  · rw [if_pos hc]; exact ctf_ok h f n
  · rw [if_neg hc]; exact h
set_option maxHeartbeats 4000000 in
theorem xtrim (B p : Nat) (S : St) (V : Nat → Value) (w : World) (h : Dk B w p S V) (ok : Ok S) (hg : S.gone = false) (f n : Nat) (hf : f ≤ 1) (hn : n ≤ (S.f f).size) : Calls Try.prog 55 #[.pointer (some ⟨p, 0, none⟩), .int .i64 f, .int .i64 n] w fun e w' => e = .returned (.int .i64 (trm S f n).2) ∧ ∃ V', Ch B p (trm S f n).1 V' w w' := by
  have HL : Hid (Calls Try.prog 46 #[.pointer (some ⟨p, 0, none⟩), .int .i64 f] w fun e w' => e = .returned (.tuple #[.int .i64 ((S.f f).size : Nat), .int .i64 0]) ∧ w = w') := by
    have := xlen B p S V w h f
    have e1 : chk S f = 0 := chk_on hg hf
    unfold ln at this
    rw [e1, if_pos rfl, Int.toNat_natCast] at this
    exact this
  have HD : Hid (Dk B w p S V) := h
  by_cases hc : n < (S.f f).size
  · have HT : Hid (trm S f n = ctf S f n) := if_pos hc
    have HC : Hid (Calls Try.prog 31 #[.pointer (some ⟨p, 0, none⟩), .int .i64 f, .int .i64 n] w fun e w' => e = .returned (.int .i64 (ctf S f n).2) ∧ ∃ V', Ch B p (ctf S f n).1 V' w w') := xcutD B p S V w h ok f n
    have hz : (((S.f f).size : Int) == (n : Int)) = false := by rw [beq_eq_false_iff_ne]; omega
    rw [HT.out]
    generalize ctf S f n = R at *
    obtain ⟨R, x⟩ := R
    simp only at HC ⊢
    clear h ok hg hn hc HT
    generalize (S.f f).size = z at *
    go_enter Try.func55, Try.ntmps55
    go_wp2_with fail
    refine HL.out.mono ?_
    rintro e w1 ⟨rfl, rfl⟩
    go_wp2_with fail
    refine HC.out.mono ?_
    rintro e w2 ⟨rfl, V2, hc2⟩
    have HC2 : Hid (Ch B p R V2 w w2) := hc2
    clear hc2
    go_wp2_with fail
    go_ret
    exact ⟨rfl, V2, HC2.out⟩
  · have HT : Hid (trm S f n = (S, 0)) := if_neg hc
    have hz : (((S.f f).size : Int) == (n : Int)) = true := by rw [beq_iff_eq]; omega
    rw [HT.out]
    clear h ok hg hn hc HT
    generalize (S.f f).size = z at *
    go_enter Try.func55, Try.ntmps55
    go_wp2_with fail
    refine HL.out.mono ?_
    rintro e w1 ⟨rfl, rfl⟩
    go_wp2_with fail
    go_ret
    exact ⟨rfl, V, HD.out, Fr.refl _ _ _⟩
/-- what Open hands back -/
def OpP (B p : Nat) (S : St) (w : World) (e : Ending) (w' : World) : Prop :=
  (∃ V', Hid (Dk B w' p (opn S).1 V')) ∧ Hid (Fr B p w w') ∧
  (((opn S).2 = 0 ∧ ∃ f j q s u ys, pick S = some (f, j) ∧ e = .returned (.tuple #[.pointer (some ⟨q, 0, none⟩), .int .i64 0]) ∧ Hid (Jm w.heap.size w' q p false f j.gen j.ahead s u ys) ∧ s.data.toList = j.st ∧ ls ys = j.l) ∨
   ((opn S).2 ≠ 0 ∧ e = .returned (.tuple #[.pointer none, .int .i64 (opn S).2])))
theorem opn_none {S : St} (hg : S.gone = false) (h : pick S = none) : opn S = (S, 15) := by
  unfold opn
  rw [if_neg (by rw [show (0 : Int) = ((0 : Nat) : Int) from rfl, chk_on hg (Nat.zero_le _)]; exact fun h => h rfl), h]
theorem opn_some {S : St} (hg : S.gone = false) {f : Nat} {j : Jn} (h : pick S = some (f, j)) : opn S = thn (trm S f j.fin) fun D => syn D f := opn_at hg h
set_option maxHeartbeats 4000000 in
theorem xopen (B p : Nat) (S : St) (V : Nat → Value) (w : World) (h : Dk B w p S V) (ok : Ok S) (hg : S.gone = false) : Calls Try.prog 28 #[.pointer (some ⟨p, 0, none⟩)] w (OpP B p S w) := by
  have HF : Hid (Calls Try.prog 54 #[.pointer (some ⟨p, 0, none⟩)] w (FdP S p w)) := xfindJ B p S V w h ok hg
  have HD : Hid (Dk B w p S V) := h
  have HK : Hid (Ok S) := ok
  have HG : Hid (S.gone = false) := hg
  unfold FdP at HF
  clear h ok hg
  cases hp : pick S with
  | none =>
    rw [hp, if_pos rfl] at HF
    have HO : Hid (opn S = (S, 15)) := opn_none HG.out hp
    go_enter Try.func28, Try.ntmps28
    go_wp2_with fail
    refine HF.out.mono ?_
    rintro e w1 ⟨v1, n1, rfl, _, hb⟩
    go_wp2_with fail
    go_ret2
    refine ⟨⟨V, by rw [HO.out]; exact HD.out.below hb.out⟩, Fr.below hb.out HD.out.bw, .inr ⟨by rw [HO.out]; exact (by decide : (15 : Int) ≠ 0), by rw [HO.out]; rfl⟩⟩
  | some fj =>
    obtain ⟨f, j⟩ := fj
    obtain ⟨hf, hl⟩ := pick_at hp
    have HP : Hid (pick S = some (f, j)) := hp
    rw [hp, if_neg (fun q => by cases q)] at HF
    have hfin : j.fin ≤ (S.f f).size := by have := look_fin hl; rw [fl_len] at this; exact this
    have HO : Hid (opn S = thn (trm S f j.fin) fun D => syn D f) := opn_some HG.out hp
    have HT : Hid (∀ w1, Dk B w1 p S V → Calls Try.prog 55 #[.pointer (some ⟨p, 0, none⟩), .int .i64 f, .int .i64 j.fin] w1 fun e w' => e = .returned (.int .i64 (trm S f j.fin).2) ∧ ∃ V', Ch B p (trm S f j.fin).1 V' w1 w') := fun w1 hd => xtrim B p S V w1 hd HK.out HG.out f j.fin hf hfin
    have HTK : Hid (Ok (trm S f j.fin).1) := trm_ok HK.out f j.fin
    clear hp hl hfin
    unfold OpP
    rw [HO.out]
    generalize trm S f j.fin = R at *
    obtain ⟨R, x⟩ := R
    simp only at HT HTK
    have HBG : Hid (∀ (v : Value) (n : Int) (w1 : World), Bst w.heap.size p w1 (some (f, j)) v n → ∃ q s u ys, v = .pointer (some ⟨q, 0, none⟩) ∧ n = (j.fin : Nat) ∧ Jm w.heap.size w1 q p false f j.gen j.ahead s u ys ∧ s.data.toList = j.st ∧ ls ys = j.l) := by
      rintro v n w1 (⟨h1, _⟩ | ⟨f', j', q, s, u, ys, h1, h2, h3, h4, h5, h6⟩)
      · cases h1
      · injection h1 with h1
        injection h1 with e1 e2
        subst e1; subst e2
        exact ⟨q, s, u, ys, h2, h3, h4, h5, h6⟩
    by_cases hx : x = 0
    · subst hx
      rw [thn_ok rfl]
      have HS : Hid (∀ w1 V1, Dk B w1 p R V1 → Calls Try.prog 56 #[.pointer (some ⟨p, 0, none⟩), .int .i64 f] w1 fun e w' => e = .returned (.int .i64 (syn R f).2) ∧ Ch B p (syn R f).1 V1 w1 w') := fun w1 V1 hd => xsyncD B p R V1 w1 hd HTK.out f
      simp only
      generalize syn R f = T at *
      obtain ⟨T, y⟩ := T
      simp only at HS ⊢
      by_cases hy : y = 0
      · subst hy
        go_enter Try.func28, Try.ntmps28
        go_wp2_with fail
        refine HF.out.mono ?_
        rintro e w1 ⟨v1, n1, rfl, hbs, hb⟩
        obtain ⟨q, s, u, ys, rfl, rfl, hj, hs, hy⟩ := HBG.out _ _ _ hbs.out
        have HD1 : Hid (Dk B w1 p S V) := HD.out.below hb.out
        have HF1 : Hid (Fr B p w w1) := Fr.below hb.out HD.out.bw
        have HJ1 : Hid (Jm w.heap.size w1 q p false f j.gen j.ahead s u ys) := hj
        have c3 : w1.cell? ⟨q, 3, none⟩ = some (.int .i64 f) := hj.cell 3
        clear hbs hb hj HBG HF
        go_wp2_with fail
        refine (HT.out _ HD1.out).mono ?_
        rintro e w2 ⟨rfl, V2, hc2⟩
        have HC2 : Hid (Ch B p R V2 w1 w2) := hc2
        have hj2 := HJ1.out.fr HD1.out hc2.2
        have HJ2 : Hid (Jm w.heap.size w2 q p false f j.gen j.ahead s u ys) := hj2
        have d3 : w2.cell? ⟨q, 3, none⟩ = some (.int .i64 f) := hj2.cell 3
        clear hc2 hj2 HT
        go_wp2_with fail
        refine (HS.out _ _ HC2.out.1).mono ?_
        rintro e w3 ⟨rfl, hc3⟩
        have HC3 : Hid (Ch B p T V2 w2 w3) := hc3
        have HJ3 : Hid (Jm w.heap.size w3 q p false f j.gen j.ahead s u ys) := HJ2.out.fr HC2.out.1 hc3.2
        clear hc3
        go_wp2_with fail
        go_ret2
        exact ⟨⟨V2, HC3.out.1⟩, HF1.out.trans (HC2.out.2.trans HC3.out.2), .inl ⟨by first | rfl | trivial, f, j, q, s, u, ys, HP.out, rfl, HJ3, hs, hy⟩⟩
      · have hy1 : (y == 0) = false := by simpa using hy
        have hy2 : (y != 0) = true := by simpa using hy
        have HY : Hid (y ≠ 0) := hy
        clear hy
        go_enter Try.func28, Try.ntmps28
        go_wp2_with fail
        refine HF.out.mono ?_
        rintro e w1 ⟨v1, n1, rfl, hbs, hb⟩
        obtain ⟨q, s, u, ys, rfl, rfl, hj, hs, hy⟩ := HBG.out _ _ _ hbs.out
        have HD1 : Hid (Dk B w1 p S V) := HD.out.below hb.out
        have HF1 : Hid (Fr B p w w1) := Fr.below hb.out HD.out.bw
        have HJ1 : Hid (Jm w.heap.size w1 q p false f j.gen j.ahead s u ys) := hj
        have c3 : w1.cell? ⟨q, 3, none⟩ = some (.int .i64 f) := hj.cell 3
        clear hbs hb hj HBG HF
        go_wp2_with fail
        refine (HT.out _ HD1.out).mono ?_
        rintro e w2 ⟨rfl, V2, hc2⟩
        have HC2 : Hid (Ch B p R V2 w1 w2) := hc2
        have hj2 := HJ1.out.fr HD1.out hc2.2
        have d3 : w2.cell? ⟨q, 3, none⟩ = some (.int .i64 f) := hj2.cell 3
        clear hc2 hj2 HT
        go_wp2_with fail
        refine (HS.out _ _ HC2.out.1).mono ?_
        rintro e w3 ⟨rfl, hc3⟩
        have HC3 : Hid (Ch B p T V2 w2 w3) := hc3
        clear hc3
        go_wp2_with fail
        go_ret2
        exact ⟨⟨V2, HC3.out.1⟩, HF1.out.trans (HC2.out.2.trans HC3.out.2), .inr ⟨HY.out, rfl⟩⟩
    · rw [thn_no hx]
      simp only
      have hx1 : (x == 0) = false := by simpa using hx
      have hx2 : (x != 0) = true := by simpa using hx
      have HX : Hid (x ≠ 0) := hx
      clear hx
      go_enter Try.func28, Try.ntmps28
      go_wp2_with fail
      refine HF.out.mono ?_
      rintro e w1 ⟨v1, n1, rfl, hbs, hb⟩
      obtain ⟨q, s, u, ys, rfl, rfl, hj, hs, hy⟩ := HBG.out _ _ _ hbs.out
      have HD1 : Hid (Dk B w1 p S V) := HD.out.below hb.out
      have HF1 : Hid (Fr B p w w1) := Fr.below hb.out HD.out.bw
      have c3 : w1.cell? ⟨q, 3, none⟩ = some (.int .i64 f) := hj.cell 3
      clear hbs hb hj HBG HF
      go_wp2_with fail
      refine (HT.out _ HD1.out).mono ?_
      rintro e w2 ⟨rfl, V2, hc2⟩
      have HC2 : Hid (Ch B p R V2 w1 w2) := hc2
      clear hc2 HT
      go_wp2_with fail
      go_ret2
      exact ⟨⟨V2, HC2.out.1⟩, HF1.out.trans HC2.out.2, .inr ⟨HX.out, rfl⟩⟩
end Go.Proofs.Yteiilifljfagdaa
