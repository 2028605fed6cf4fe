/- layer 13: Set of the program's -/
import Derived.Test.YtheikjjehidagaaEH
import Derived.Test.YtheikjjehidagaaECA
import Derived.WalkKit
import Derived.ProofKit
import Derived.Handy
import Derived.WalkLawsBesides
import Derived.WalkSpells
import Derived.BigQuiet
import Derived.BigCall
import Derived.Deep.QuietTactic
import Derived.Deep.Light
import Derived.Deep.OwnRows
import Derived.Laws.AppendOwnNone
import Derived.Laws.Strings3
import Derived.Laws.RangeAny
import Derived.Deep.RegionWith
import Derived.Lib.BitFns
import Derived.Lib.Walk
import Derived.Lib.Strings
import Derived.Lib.OthersKept
import Derived.Deep.CutBlock
import Derived.Deep.DeepCutAuto
import Derived.Deep.LoopGhost
import Derived.Deep.RegionHeld3
import Derived.Lib.SmallJoins
import Derived.Maps.AppendAt
import Derived.Laws.IdiomStrings
import Derived.Lib.AppendZeros
import Derived.Deep.WholeRow
import Derived.Laws.BitsAllLaws
import Derived.Lib.ConvBytes
import Derived.Deep.RegionLaw
import Derived.Maps.OwnSet
import Derived.Maps.OwnOps
import Derived.Maps.RangeWalk
import Derived.Maps.Ext
import Derived.DeepKeys4
import Derived.Laws.StructEq
import Derived.Deep.MidRow
import Derived.Lib.Bytealg
import Derived.Lib.Overlaps
import Derived.Lib.AppendZerosOnto
import Derived.Laws.MakeOwn
namespace Go.Proofs.Ytheikjjehidagaa.H5
open Go.RowKit
set_option linter.unusedVariables false
set_option linter.unusedSimpArgs false
open Num
set_option maxRecDepth 20000
def gpB (p : Int) : Bool := decide (1 ≤ p ∧ p ≤ 4294967296)
theorem xgp (p : Int) (w : World) : Calls Try.prog 84 #[.int .i64 p] w (BoP (gpB p) w) := by
  go_enter Try.func84, Try.ntmps84
  go_wp2
  all_goals go_ret
  all_goals exact ⟨ret_bool (by unfold gpB; symm; first | exact decide_eq_true (by omega) | exact decide_eq_false (by omega) | (simp; omega)), rfl⟩
def Af (B : Nat) (q : Nat) (v : Value) (L : List Kn) (w w' : World) : Prop := ∃ v', Bk B w' q v' L ∧ Kp w w' q v ∧ (v'.ownBlock = v.ownBlock ∨ ∃ g, v'.ownBlock = some g ∧ w.heap.size ≤ g)
theorem kc_set {L : List Kn} {i : Nat} (hi : i < L.length) (p : Int) : kcells (L.set i ⟨L[i].a, p⟩) = (kcells L).set (i * 6 + 5) (.int .i64 p) := by
  have hlen : ∀ M : List Kn, (kcells M).length = M.length * 6 := by
    intro M
    induction M with
    | nil => rfl
    | cons x r ih =>
      have : kcells (x :: r) = kcs x ++ kcells r := rfl
      rw [this, List.length_append, ih, kcs_len, List.length_cons]
      omega
  apply List.ext_getElem?
  intro m
  by_cases hm : m < L.length * 6
  · have h1 : m / 6 < L.length := by omega
    have h2 : m % 6 < 6 := by omega
    have hm2 : m = m / 6 * 6 + m % 6 := by omega
    have e1 := flat_at kcs 6 kcs_len (L.set i ⟨L[i].a, p⟩) (m / 6) (by simpa using h1) (m % 6) h2
    have e2 := flat_at kcs 6 kcs_len L (m / 6) h1 (m % 6) h2
    rw [← hm2] at e1 e2
    have e1' : (kcells (L.set i ⟨L[i].a, p⟩))[m]? = _ := e1
    have e2' : (kcells L)[m]? = _ := e2
    rw [e1', List.getElem?_set, List.getElem_set]
    by_cases e : i = m / 6
    · rw [if_pos e]
      have e3 : L[m / 6] = L[i] := by congr 1; exact e.symm
      by_cases e4 : m % 6 = 5
      · rw [if_pos (by omega), if_pos (by rw [hlen]; omega), e4]
        rfl
      · rw [if_neg (by omega), e2', e3]
        have : m % 6 = 0 ∨ m % 6 = 1 ∨ m % 6 = 2 ∨ m % 6 = 3 ∨ m % 6 = 4 := by omega
        rcases this with h | h | h | h | h <;> (rw [h]; rfl)
    · rw [if_neg e, if_neg (by omega), e2']
  · rw [List.getElem?_eq_none (by rw [hlen, List.length_set]; omega), List.getElem?_eq_none (by rw [List.length_set, hlen]; omega)]
theorem own_setP {w : World} {B T g n cap : Nat} {L : List Kn} (h : w.ownsRow B T 6 (.slice (some ⟨g, 0, none⟩) n cap) L.length (kcells L)) {i : Nat} (hi : i < L.length) (p : Int) : (w.setCell ⟨g, i * 6 + 5, none⟩ (.int .i64 p)).ownsRow B T 6 (.slice (some ⟨g, 0, none⟩) n cap) L.length (kcells (L.set i ⟨L[i].a, p⟩)) := by
  rw [kc_set hi]
  refine ⟨by rw [List.length_set]; exact h.1, ?_⟩
  rcases h.2 with ⟨hbad, _⟩ | ⟨g', cap', cur, hv, hB, hg, h4, h5, h6, h7⟩
  · cases hbad
  · injection hv with e1 e2 e3
    injection e1 with e1
    injection e1 with e1
    subst e1 e3
    refine .inr ⟨g, cap, cur.setIfInBounds (i * 6 + 5) (.int .i64 p), by rw [e2], hB, ?_, h4, h5, ?_, ?_⟩
    · exact Bx.setc (cs := cur) (T := T) hg _ _
    · simpa using h6
    · rw [Array.toList_setIfInBounds, List.take_set, h7]
theorem xfault {B : Nat} {q : Nat} {v : Value} {L : List Kn} (g : Num.Good L) (s : ByteArray) (p : Int) (w : World) (h : Bk B w q v L) : Calls Try.prog 60 #[.pointer (some ⟨q, 0, none⟩), .agg #[.string s, .int .i64 p]] w fun e w' => e = .returned (.int .i64 (why L (s, p))) ∧ Below w.heap.size w w' := by
  have hb1 : ∀ y, Below w.heap.size w (w.alloc y) := fun y => (Below.refl _ w).alloc (Nat.le_refl _) _
  have HF : Hid (∀ y, Calls Try.prog 55 #[.pointer (some ⟨q, 0, none⟩), .string s] (w.alloc y) fun e w3 => e = .returned (.tuple #[.int .i64 (pos L s.toList), .bool (has L s.toList)]) ∧ Hid (Below w.heap.size w w3 ∧ Below (w.alloc y).heap.size (w.alloc y) w3)) := fun y => ((h.below (hb1 y)).find g s).mono fun e w3 k => ⟨k.1, (hb1 y).trans (k.2.mono (hb1 y).size), k.2⟩
  have HN : Hid (Bx (w.alloc (.cells #[.string s, .int .i64 p] 108)) w.heap.size #[.string s, .int .i64 p] 108) := Bx.new w _ _
  have HG : Hid (∀ w, Calls Try.prog 84 #[.int .i64 p] w (BoP (gpB p) w)) := fun w => xgp p w
  unfold why
  simp only
  cases hh : has L s.toList with
  | false =>
    rw [hh] at HF
    clear hh h g hb1
    generalize pos L s.toList = P at *
    go_enter Try.func60, Try.ntmps60
    go_wp2_with (go_at_call 55; refine (HF.out _).mono ?_; clear HF; rintro e w3 ⟨rfl, HZ⟩)
    go_ret
    exact ⟨rfl, HZ.out.1⟩
  | true =>
    rw [hh] at HF
    clear hh h g hb1
    generalize pos L s.toList = P at *
    by_cases hp : 1 ≤ p ∧ p ≤ 4294967296
    · have hg : gpB p = true := decide_eq_true hp
      rw [hg] at HG
      rw [if_pos rfl, if_pos hp]
      clear hg hp
      go_enter Try.func60, Try.ntmps60
      go_wp2_with (first | (go_at_call 55; refine (HF.out _).mono ?_; clear HF; rintro e w3 ⟨rfl, HZ⟩; have c1 : w3.cell? ⟨w.heap.size, 1, none⟩ = some (.int .i64 p) := (HN.out.below HZ.out.2 HN.out.lt).cell 1) | (go_at_call 84; refine (HG.out _).mono ?_; rintro e w4 ⟨rfl, rfl⟩))
      go_ret
      exact ⟨rfl, HZ.out.1⟩
    · have hg : gpB p = false := decide_eq_false hp
      rw [hg] at HG
      rw [if_pos rfl, if_neg hp]
      clear hg hp
      go_enter Try.func60, Try.ntmps60
      go_wp2_with (first | (go_at_call 55; refine (HF.out _).mono ?_; clear HF; rintro e w3 ⟨rfl, HZ⟩; have c1 : w3.cell? ⟨w.heap.size, 1, none⟩ = some (.int .i64 p) := (HN.out.below HZ.out.2 HN.out.lt).cell 1) | (go_at_call 84; refine (HG.out _).mono ?_; rintro e w4 ⟨rfl, rfl⟩))
      go_ret
      exact ⟨rfl, HZ.out.1⟩
def SeP (B : Nat) (q : Nat) (v : Value) (L : List Kn) (N E : Nat) (w : World) (e : Ending) (w' : World) : Prop := e = .returned (.tuple #[.int .i64 N, .int .i64 E]) ∧ Hid (Af B q v L w w')
theorem setE_at {L : List Kn} {ps : List Pr} {k : Nat} (hk : k < ps.length) (h : ∀ j (hj : j < ps.length), j < k → why L ps[j] = 0) (h2 : why L ps[k] ≠ 0) : setN L ps = k ∧ setE L ps = why L ps[k] ∧ setL L ps = L := by
  have h3 := stp_at (L := L) (m := 0) hk h h2
  have h4 : setE L ps = why L ps[k] := by unfold setE; rw [h3]
  refine ⟨by unfold setN; rw [h3]; simp, h4, ?_⟩
  unfold setL
  rw [if_neg (by rw [h4]; exact h2)]
theorem setE_end {L : List Kn} {ps : List Pr} (h : ∀ j (hj : j < ps.length), why L ps[j] = 0) : setN L ps = ps.length ∧ setE L ps = 0 ∧ setL L ps = folds L ps := by
  have h3 := stp_end (L := L) (m := 0) h
  have h4 : setE L ps = 0 := by unfold setE; rw [h3]
  refine ⟨by unfold setN; rw [h3]; simp, h4, ?_⟩
  unfold setL
  rw [if_pos h4]
theorem folds_good {L : List Kn} (g : Num.Good L) (ps : List Pr) (h : ∀ x ∈ ps, why L x = 0) : Num.Good (folds L ps) := by
  refine ⟨folds_srt ps g.srt, by rw [folds_len]; exact g.len, folds_fine ps g.all (fun x hx => ?_)⟩
  have := why_ok (h x hx)
  omega
set_option maxHeartbeats 8000000 in
theorem xset {B : Nat} {q : Nat} {v : Value} {L : List Kn} (g : Num.Good L) (ps : List Pr) (hl : ps.length ≤ 1000000) (a : Option Addr) (cap : Nat) (w : World) (h : Bk B w q v L) (hp : Prs w a ps) (hB : B ≤ w.heap.size) (hpv : ∀ blk off, a = some ⟨blk, off, none⟩ → 0 < ps.length → blk ≠ q ∧ some blk ≠ v.ownBlock) : Calls Try.prog 35 #[.pointer (some ⟨q, 0, none⟩), .slice a ps.length cap] w (SeP B q v (setL L ps) (setN L ps) (setE L ps) w) := by
  have HS : Hid (Bk B w q v L) := h
  have HG : Hid (Num.Good L) := g
  have HP : Hid (Prs w a ps) := hp
  have HV : Hid (∀ blk off, a = some ⟨blk, off, none⟩ → 0 < ps.length → blk ≠ q ∧ some blk ≠ v.ownBlock) := hpv
  have HL : Hid (Calls Try.prog 53 #[.pointer (some ⟨q, 0, none⟩)] w (BoP false w)) := xlackB h.b
  have hlz : (ps.length : Int) ≤ 1000000 := by omega
  have HR : Hid (∃ LL NN EE, LL = setL L ps ∧ NN = setN L ps ∧ EE = setE L ps) := ⟨_, _, _, rfl, rfl, rfl⟩
  obtain ⟨LL, hLL⟩ : ∃ LL, LL = setL L ps := ⟨_, rfl⟩
  obtain ⟨NN, hNN⟩ : ∃ NN, NN = setN L ps := ⟨_, rfl⟩
  obtain ⟨EE, hEE⟩ : ∃ EE, EE = setE L ps := ⟨_, rfl⟩
  have HQ : Hid (LL = setL L ps ∧ NN = setN L ps ∧ EE = setE L ps) := ⟨hLL, hNN, hEE⟩
  rw [← hLL, ← hNN, ← hEE]
  clear h g hp hB hpv hLL hNN hEE HR
  go_enter Try.func35, Try.ntmps35
  go_wp2_with (go_at_call 53; refine HL.out.mono ?_; clear HL; rintro e w2 ⟨rfl, rfl⟩)
  go_loopw [17] (fun i wr => ∃ k : Nat, k ≤ ps.length ∧ i = .int .i64 k ∧ Hid (Below w.heap.size w wr ∧ ∀ j (hj : j < ps.length), j < k → why L ps[j] = 0))
    (fun i _ => ps.length - (intOf i).toNat)
  case atStart => exact ⟨0, Nat.zero_le _, rfl, Below.refl _ _, fun j _ h => absurd h (Nat.not_lt_zero j)⟩
  case round =>
    obtain ⟨k, hk, rfl, HZ⟩ := hrel
    by_cases hkn : k < ps.length
    · have hkz : (k : Int) < (ps.length : Int) := by omega
      obtain ⟨blk, off, rfl, hbl, hcs⟩ := HP.out (by omega)
      have hc2 := hcs k hkn
      have HY : Hid (∀ j (hj : j < ps.length), j < k + 1 → why L ps[k] = 0 → why L ps[j] = 0) := fun j hj h1 h2 => by
        rcases Nat.lt_or_ge j k with h3 | h3
        · exact HZ.out.2 j hj h3
        · obtain rfl : j = k := by omega
          exact h2
      have HN : Hid (∀ w', Below w.heap.size w w' → why L ps[k] ≠ 0 → SeP B q v LL NN EE w (.returned (.tuple #[.int .i64 k, .int .i64 (why L ps[k])])) w') := fun w' hb hw => by
        rw [HQ.out.1, HQ.out.2.1, HQ.out.2.2]
        obtain ⟨e1, e2, e3⟩ := setE_at hkn HZ.out.2 hw
        rw [e1, e2, e3]
        exact ⟨rfl, HS.out.same hb⟩
      have HB : Hid (Below w.heap.size w wr) := HZ.out.1
      have HC : Hid (∀ y, Calls Try.prog 60 #[.pointer (some ⟨q, 0, none⟩), .agg #[.string ps[k].1, .int .i64 ps[k].2]] (wr.alloc y) fun e w' => e = .returned (.int .i64 (why L ps[k])) ∧ Hid (Below w.heap.size w w')) := fun y => (xfault HG.out _ _ _ (HS.out.below (HB.out.alloc HB.out.size y))).mono fun e w' hh => ⟨hh.1, (HB.out.alloc HB.out.size y).trans (hh.2.mono (HB.out.alloc HB.out.size y).size)⟩
      generalize ps[k] = x at *
      obtain ⟨xs, xp⟩ := x
      have c0 : wr.cell? ⟨blk, off + k * 2, none⟩ = some (.string xs) := (HB.out.cell (p := ⟨blk, off + k * 2 + 0, none⟩) hbl).trans (hc2 0 (by omega))
      have c1 : wr.cell? ⟨blk, off + k * 2 + 1, none⟩ = some (.int .i64 xp) := (HB.out.cell (p := ⟨blk, off + k * 2 + 1, none⟩) hbl).trans (hc2 1 (by omega))
      clear hc2 hcs HZ
      simp only at HC
      generalize why L (xs, xp) = E at *
      by_cases hE : E = 0
      · have hEz : ((E : Int) != 0) = false := by simp [hE]
        clear HN
        go_wp2_with (go_at_call 60; refine (HC.out _).mono ?_; clear HC; rintro e w3 ⟨rfl, HB3⟩)
        go_roundw
        case rel => exact ⟨k + 1, by omega, by simp, HB3.out, fun j hj h1 => HY.out j hj h1 hE⟩
        case measure => simp [intOf]; omega
      · have hEz : ((E : Int) != 0) = true := by simp [hE]
        clear HY
        go_wp2_with (go_at_call 60; refine (HC.out _).mono ?_; clear HC; rintro e w3 ⟨rfl, HB3⟩)
        go_ret2
        exact HN.out _ HB3.out hE
    · have hkz : ¬ (k : Int) < (ps.length : Int) := by omega
      have HA : Hid (∀ j (hj : j < ps.length), why L ps[j] = 0) := fun j hj => HZ.out.2 j hj (by omega)
      have HB0 : Hid (Below w.heap.size w wr) := HZ.out.1
      have hkn2 : ps.length = k := by omega
      have HF : Hid (∀ w', Bk B w' q v (folds L ps) → Kp w w' q v → SeP B q v LL NN EE w (.returned (.tuple #[.int .i64 ps.length, .int .i64 0])) w') := fun w' h1 h2 => by
        rw [HQ.out.1, HQ.out.2.1, HQ.out.2.2]
        obtain ⟨e1, e2, e3⟩ := setE_end HA.out
        rw [e1, e2, e3]
        exact ⟨rfl, v, h1, h2, .inl rfl⟩
      clear HZ hkn2
      go_wp2_with fail
      go_loopw [32] (fun i wr => ∃ k : Nat, k ≤ ps.length ∧ i = .int .i64 k ∧ Hid (Bk B wr q v (folds L (ps.take k)) ∧ Kp w wr q v))
        (fun i _ => ps.length - (intOf i).toNat)
      case atStart => exact ⟨0, Nat.zero_le _, rfl, HS.out.below HB0.out, Kp.of_below HB0.out q v⟩
      case round =>
        obtain ⟨m, hm, rfl, HZ⟩ := hrel
        by_cases hmn : m < ps.length
        · have hmz : (m : Int) < (ps.length : Int) := by omega
          obtain ⟨blk, off, rfl, hbl, hcs⟩ := HP.out (by omega)
          have hc2 := hcs m hmn
          obtain ⟨n1, n2⟩ := HV.out blk off rfl (by omega)
          have hwk := why_ok (HA.out m hmn)
          have HM : Hid (Num.Good (folds L (ps.take m))) := folds_good HG.out _ (fun x hx => by
            obtain ⟨j, hj, rfl⟩ := List.getElem_of_mem (List.mem_of_mem_take hx)
            exact HA.out j hj)
          have hfold := folds_take (L := L) hmn
          have hhas : has (folds L (ps.take m)) ps[m].1.toList = true := by rw [folds_has]; exact hwk.1
          have HT : Hid (folds L (ps.take (m + 1)) = upd (folds L (ps.take m)) ps[m].1.toList ps[m].2) := hfold
          generalize folds L (ps.take m) = M at *
          obtain ⟨M', hM'⟩ : ∃ M', M' = folds L (ps.take (m + 1)) := ⟨_, rfl⟩
          have HM2 : Hid (M' = folds L (ps.take (m + 1))) := hM'
          rw [← hM'] at HT
          clear hfold hM'
          have hcell : ∀ j, j < 2 → wr.cell? ⟨blk, off + m * 2 + j, none⟩ = (prc ps[m])[j]? := fun j hj => (World.cell?_of_block (a := ⟨blk, _, none⟩) (HZ.out.2.block blk hbl n1 n2)).trans (hc2 j hj)
          generalize ps[m] = x at *
          obtain ⟨xs, xp⟩ := x
          simp only at *
          obtain ⟨hpl, hpe⟩ := has_pos HM.out.srt hhas
          have c0 : wr.cell? ⟨blk, off + m * 2, none⟩ = some (.string xs) := hcell 0 (by omega)
          have c1 : wr.cell? ⟨blk, off + m * 2 + 1, none⟩ = some (.int .i64 xp) := hcell 1 (by omega)
          obtain ⟨ra, rc, hv, hrc, hrw⟩ := HZ.out.1.read
          obtain ⟨g, o0, rfl, hgl, hgc⟩ := hrw (by omega)
          have hog : o0 = 0 := by
            have h1 := HZ.out.1.o.2
            rw [hv] at h1
            rcases h1 with ⟨hb, _⟩ | ⟨g2, _, _, hb, _⟩
            · cases hb
            · injection hb with hb _ _
              injection hb with hb
              injection hb with _ hb
          subst hog
          subst hv
          have hL6 := (Rw.at6 (w := wr) (wr := wr) hgc (Below.refl _ _) hgl hpl).2.2.2.2.2
          have HX : Hid (∀ y, Bx (wr.alloc (.cells #[.string xs, .int .i64 xp] y)) wr.heap.size #[.string xs, .int .i64 xp] y) := fun y => Bx.new wr _ _
          have HFi : Hid (Calls Try.prog 55 #[.pointer (some ⟨q, 0, none⟩), .string xs] (wr.alloc (.cells #[.string xs, .int .i64 xp] 108)) fun e w3 => e = .returned (.tuple #[.int .i64 (pos M xs.toList), .bool true]) ∧ w3.cell? ⟨q, 1, none⟩ = some (.slice (some ⟨g, 0, none⟩) M.length rc) ∧ w3.cell? ⟨wr.heap.size, 1, none⟩ = some (.int .i64 xp) ∧ (∃ u, w3.cell? ⟨g, pos M xs.toList * 6 + 5, none⟩ = some (.int .i64 u)) ∧ w3.frozen? ⟨g, pos M xs.toList * 6 + 5, none⟩ = false ∧ Hid (∀ W, W = w3.drew → Bk B (W.setCell ⟨g, pos M xs.toList * 6 + 5, none⟩ (.int .i64 xp)) q (.slice (some ⟨g, 0, none⟩) M.length rc) M' ∧ Kp w (W.setCell ⟨g, pos M xs.toList * 6 + 5, none⟩ (.int .i64 xp)) q (.slice (some ⟨g, 0, none⟩) M.length rc))) := by
            have hb : Below wr.heap.size wr (wr.alloc (.cells #[.string xs, .int .i64 xp] 108)) := (Below.refl _ wr).alloc (Nat.le_refl _) _
            refine ((HZ.out.1.below hb).find HM.out xs).mono ?_
            rintro e w3 ⟨rfl, hb3⟩
            have hb4 : Below wr.heap.size wr w3 := hb.trans (hb3.mono hb.size)
            have hbk := HZ.out.1.below hb4
            refine ⟨by rw [hhas], hbk.b.cell 1, ((Bx.new wr _ _).below hb3 (Bx.new wr _ _).lt).cell 1, ⟨M[pos M xs.toList].p, ?_⟩, ?_, ?_⟩
            · have := (hb4.cell (p := ⟨g, 0 + pos M xs.toList * 6 + 5, none⟩) hgl).trans hL6
              rw [Nat.zero_add] at this
              exact this
            · rcases hbk.o.2 with ⟨hb, _⟩ | ⟨g2, c2, cur2, hb, _, hg2, _⟩
              · cases hb
              · injection hb with hb _ _
                injection hb with hb
                injection hb with hb _
                subst hb
                exact Bx.froz (cs := cur2) (T := 101) hg2 _
            · intro W hW
              subst hW
              have hbd : Bk B w3.drew q (.slice (some ⟨g, 0, none⟩) M.length rc) M := hbk.below ((Below.refl _ w3).drew)
              have hqg : some q ≠ Value.ownBlock (.slice (some ⟨g, 0, none⟩) M.length rc) := own_nb hbd.o hbd.b (by decide)
              have hqg2 : q ≠ g := fun e => hqg (by rw [e]; rfl)
              refine ⟨⟨hbd.b.oset hqg2 _ _, ?_, hbd.q⟩, ?_⟩
              · rw [HT.out, upd_set HM.out.srt xp hpl hpe, List.length_set]
                exact own_setP hbd.o hpl xp
              · have hk3 : Kp w w3.drew q (.slice (some ⟨g, 0, none⟩) M.length rc) := HZ.out.2.trans (Kp.of_below (hb4.drew) q _) (.inl rfl)
                exact hk3.grown (grown_set w3.drew g _ _) (fun k e => by injection e with e; exact .inr (.inl (by rw [e]; rfl)))
          have hplz : (pos M xs.toList : Int) < (M.length : Int) := by omega
          clear hc2 hcs hcell n1 n2 hwk hhas hpe hrc hrw hgc hL6 HZ HT HM HX hbl
          generalize pos M xs.toList = P at *
          go_wp2_with (go_at_call 55; refine HFi.out.mono ?_; clear HFi; rintro e w3 ⟨rfl, d1, d2, ⟨u, d3⟩, d4, HY⟩)
          go_region
          go_wp2_with fail
          go_roundw
          case rel => exact ⟨m + 1, by omega, by simp, by rw [← HM2.out]; exact HY.out _ rfl⟩
          case measure => simp [intOf]; omega
        · have hmz : ¬ (m : Int) < (ps.length : Int) := by omega
          have hF : Hid (SeP B q v LL NN EE w (.returned (.tuple #[.int .i64 ps.length, .int .i64 0])) wr) := by
            have h1 := HZ.out
            rw [show m = ps.length by omega, List.take_length] at h1
            exact HF.out wr h1.1 h1.2
          clear HZ
          go_wp2_with fail
          go_ret2
          exact hF.out
end Go.Proofs.Ytheikjjehidagaa.H5
