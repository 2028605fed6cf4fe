/- layer 16: slices.DeleteFunc over uses -/
import Derived.Test.YtdfadcbchiogjaaGreatPA
import Derived.WalkKit
import Derived.ProofKit
import Derived.Handy
import Derived.WalkLawsBesides
import Derived.WalkSpells
import Derived.BigQuiet
import Derived.BigCall
import Derived.Deep.QuietTactic
import Derived.Deep.Light
import Derived.Deep.OwnRows
import Derived.Laws.AppendOwnNone
import Derived.Laws.Strings3
import Derived.Laws.RangeAny
import Derived.Deep.RegionWith
import Derived.Lib.BitFns
import Derived.Lib.Walk
import Derived.Lib.Strings
import Derived.Lib.OthersKept
import Derived.Deep.CutBlock
import Derived.Deep.DeepCutAuto
import Derived.Deep.LoopGhost
import Derived.Deep.RegionHeld3
import Derived.Lib.SmallJoins
import Derived.Maps.AppendAt
import Derived.Laws.IdiomStrings
import Derived.Lib.AppendZeros
import Derived.Deep.WholeRow
import Derived.Laws.BitsAllLaws
import Derived.Lib.ConvBytes
import Derived.Deep.RegionLaw
import Derived.Maps.OwnSet
import Derived.Maps.OwnOps
import Derived.Maps.RangeWalk
import Derived.Maps.Ext
import Derived.DeepKeys4
import Derived.Laws.StructEq
import Derived.Deep.MidRow
import Derived.Lib.Bytealg
import Derived.Lib.AppendZerosOnto
import Derived.Laws.MakeOwn
import Derived.Deep.Upon
import Derived.Sort.KeysCollected
namespace Go.Proofs.YtdfadcbchiogjaaGreat
open Go.RowKit
set_option linter.unusedVariables false
set_option linter.unusedSimpArgs false
set_option maxRecDepth 20000
def usK (u : Us) : Bool := decide (u.c ≤ u.l)
theorem usK_not (u : Us) : decide (u.l < u.c) = !usK u := by
  unfold usK
  by_cases h : u.c ≤ u.l <;> simp [h] <;> omega
theorem xkept (u : Us) (w : World) : Calls Tryz.prog 20 #[.agg (ucs u).toArray] w (fun e w' => e = .returned (.bool (usK u)) ∧ Below w.heap.size w w') := by
  have HB : Hid (∀ y, Below w.heap.size w (w.alloc y)) := fun y => below_a w y
  obtain ⟨i, s, c, l⟩ := u
  unfold usK ucs
  simp only
  go_enter Tryz.func20, Tryz.ntmps20
  go_wp2_with fail
  go_ret
  exact ⟨by simp, HB.out _⟩
theorem rcs_cons (u : Us) (R : List Us) : rcs ucs (u :: R) = ucs u ++ rcs ucs R := by simp [rcs]
theorem rcs_len : ∀ R : List Us, (rcs ucs R).length = R.length * 4
  | [] => rfl
  | u :: R => by rw [rcs_cons, List.length_append, rcs_len R, ucs_len, List.length_cons]; omega
theorem rcs_set (tl : List Value) (u : Us) : ∀ (R : List Us) (i : Nat), i < R.length →
    (((((rcs ucs R ++ tl).set (i * 4) (.int .i64 u.i)).set (i * 4 + 1) (.string ⟨u.s.toArray⟩)).set (i * 4 + 2) (.int .i64 u.c)).set (i * 4 + 3) (.int .i64 u.l)) = rcs ucs (R.set i u) ++ tl
  | [], _, h => absurd h (Nat.not_lt_zero _)
  | y :: R, 0, _ => by simp [rcs_cons, ucs]
  | y :: R, i + 1, h => by
    have ih := rcs_set tl u R i (by simpa using h)
    rw [show (i + 1) * 4 = i * 4 + 4 by omega, List.set_cons_succ, rcs_cons, rcs_cons, List.append_assoc, List.append_assoc, ← ih]
    simp [ucs]
theorem rcs_at (tl : List Value) {R : List Us} {k j : Nat} (hk : k < R.length) (hj : j < 4) : (rcs ucs R ++ tl)[k * 4 + j]? = (ucs R[k])[j]? := by
  have h := flat_at ucs 4 ucs_len R k hk j hj
  have h2 : k * 4 + j < (rcs ucs R).length := by rw [rcs_len]; omega
  rw [List.getElem?_append_left h2]
  exact h
/-- a row of uses at g under way -/
structure Dl (w0 W : World) (B g : Nat) (R : List Us) (tl : List Value) : Prop where
  b : Bx W g (rcs ucs R ++ tl).toArray 59
  k : Below B w0 W
  g : B ≤ g
theorem Dl.below {w0 W W' : World} {B g : Nat} {R : List Us} {tl : List Value} (h : Dl w0 W B g R tl) (hB : B ≤ W.heap.size) (hb : Below W.heap.size W W') : Dl w0 W' B g R tl := ⟨h.b.below hb h.b.lt, h.k.trans (hb.mono hB), h.g⟩
theorem Dl.size {w0 W : World} {B g : Nat} {R : List Us} {tl : List Value} (h : Dl w0 W B g R tl) : B ≤ W.heap.size := by
  have := h.b.lt
  have := h.g
  omega
theorem Dl.at {w0 W : World} {B g : Nat} {R : List Us} {tl : List Value} (h : Dl w0 W B g R tl) {k : Nat} (hk : k < R.length) :
    W.cell? ⟨g, k * 4, none⟩ = some (.int .i64 R[k].i) ∧ W.cell? ⟨g, k * 4 + 1, none⟩ = some (.string ⟨R[k].s.toArray⟩) ∧ W.cell? ⟨g, k * 4 + 2, none⟩ = some (.int .i64 R[k].c) ∧ W.cell? ⟨g, k * 4 + 3, none⟩ = some (.int .i64 R[k].l) := by
  have e (j : Nat) (hj : j < 4) : W.cell? ⟨g, k * 4 + j, none⟩ = (ucs R[k])[j]? := by rw [h.b.cell, List.getElem?_toArray, rcs_at tl hk hj]
  exact ⟨e 0 (by omega), e 1 (by omega), e 2 (by omega), e 3 (by omega)⟩
theorem Dl.put {w0 W : World} {B g : Nat} {R : List Us} {tl : List Value} (h : Dl w0 W B g R tl) {i : Nat} (hi : i < R.length) (u : Us) :
    Dl w0 ((((W.setCell ⟨g, i * 4, none⟩ (.int .i64 u.i)).setCell ⟨g, i * 4 + 1, none⟩ (.string ⟨u.s.toArray⟩)).setCell ⟨g, i * 4 + 2, none⟩ (.int .i64 u.c)).setCell ⟨g, i * 4 + 3, none⟩ (.int .i64 u.l)) B g (R.set i u) tl := by
  refine ⟨?_, (((h.k.setCell (p := ⟨g, i * 4, none⟩) h.g _).setCell (p := ⟨g, i * 4 + 1, none⟩) h.g _).setCell (p := ⟨g, i * 4 + 2, none⟩) h.g _).setCell (p := ⟨g, i * 4 + 3, none⟩) h.g _, h.g⟩
  have k4 := (((h.b.setc (i * 4) (.int .i64 u.i)).setc (i * 4 + 1) (.string ⟨u.s.toArray⟩)).setc (i * 4 + 2) (.int .i64 u.c)).setc (i * 4 + 3) (.int .i64 u.l)
  rw [← rcs_set tl u R i hi]
  simpa using k4
theorem Bx.setCells {g T m B : Nat} {w0 : World} (hg : B ≤ g) : ∀ (vs : List Value) (o : Nat) (W : World) (cs : Array Value), m ≤ o → Bx W g cs T → Below B w0 W → ∃ cs' : Array Value, Bx (W.setCells g o vs) g cs' T ∧ cs'.size = cs.size ∧ cs'.toList.take m = cs.toList.take m ∧ Below B w0 (W.setCells g o vs)
  | [], _, _, cs, _, h, hb => ⟨cs, h, rfl, rfl, hb⟩
  | v :: vs, o, W, cs, ho, h, hb => by
    obtain ⟨cs', h1, h2, h3, h4⟩ := Bx.setCells (m := m) hg vs (o + 1) (W.setCell ⟨g, o, none⟩ v) (cs.setIfInBounds o v) (by omega) (h.setc o v) (hb.setCell (p := ⟨g, o, none⟩) hg v)
    refine ⟨cs', h1, by simpa using h2, ?_, h4⟩
    rw [h3]
    simp [List.take_set_of_le ho]
def zUs : Value := .agg #[.int .i64 0, .string ⟨#[]⟩, .int .i64 0, .int .i64 0]
theorem run_clear4 (w : World) (ty : TypeId) (b o n c : Nat) (hn : 0 < n) (hc : ∀ j, j < n * 4 → (w.cell? ⟨b, o + j, none⟩).isSome = true) (hf : ∀ j, j < n * 4 → w.frozen? ⟨b, o + j, none⟩ = false) :
    ∃ vs, (Builtin.clear_ #[28] ty #[.slice (some ⟨b, o, none⟩) n c]).run Tryz.prog w = .ok (.tuple #[]) (w.setCells b o vs) := by
  have hv : ∀ w, (zeroValue 59).run Tryz.prog w = .ok zUs w := Tryz.zeroValue59
  have hl : (Builtin.zeroCells zUs.cells n).toList.length = n * 4 := by simp [Builtin.zeroCells, zUs, Value.cells]
  have hst := run_storeCells_cells (P := Tryz.prog) b o (Builtin.zeroCells zUs.cells n).toList 0 w (by rw [hl]; simpa using hc) (by rw [hl]; simpa using hf) (by
    intro v hv
    simp only [Builtin.zeroCells, Array.toList_map, List.mem_map] at hv
    obtain ⟨i, _, rfl⟩ := hv
    have h4 : i % zUs.cells.size < 4 := Nat.mod_lt _ (by decide)
    generalize i % zUs.cells.size = j at *
    match j, h4 with
    | 0, _ => rfl
    | 1, _ => rfl
    | 2, _ => rfl
    | 3, _ => rfl)
  simp only [Nat.add_zero] at hst
  obtain ⟨m, rfl⟩ : ∃ m, n = m + 1 := ⟨n - 1, by omega⟩
  exact ⟨(Builtin.zeroCells zUs.cells (m + 1)).toList, by simp [Builtin.clear_, run_underlying Tryz.underlying28, hv, hst]⟩
theorem Dl.clear {w0 W : World} {B g cap : Nat} {R : List Us} {tl : List Value} (h : Dl w0 W B g R tl) (ty : TypeId) {i c : Nat} (hi : i < R.length) (hc : (rcs ucs R ++ tl).length = cap * 4) (hm : cap ≤ maxLen) :
    ∃ W', (Builtin.clear_ #[28] ty #[.slice (some ⟨g, i * 4, none⟩) (R.length - i) c]).run Tryz.prog W = .ok (.tuple #[]) W' ∧ W'.ownsRow B 59 4 (.slice (some ⟨g, 0, none⟩) i cap) i (rcs ucs (R.take i)) ∧ Below B w0 W' := by
  have hlen : (rcs ucs R ++ tl).length = R.length * 4 + tl.length := by rw [List.length_append, rcs_len]
  obtain ⟨vs, hv⟩ := run_clear4 W ty g (i * 4) (R.length - i) c (by omega) (fun j hj => by
    rw [h.b.cell, List.getElem?_toArray, List.getElem?_eq_getElem (by omega)]; rfl) (fun j _ => h.b.froz _)
  obtain ⟨cs', k1, k2, k3, k4⟩ := Bx.setCells (m := i * 4) h.g vs (i * 4) W _ (Nat.le_refl _) h.b h.k
  refine ⟨_, hv, ⟨by rw [rcs_len, List.length_take]; omega, .inr ⟨g, cap, cs', rfl, h.g, k1, by omega, hm, by rw [k2]; simpa using hc, ?_⟩⟩, k4⟩
  rw [k3]
  show (rcs ucs R ++ tl).take (i * 4) = _
  conv => lhs; rw [← List.take_append_drop i R]
  have e : rcs ucs (R.take i ++ R.drop i) = rcs ucs (R.take i) ++ rcs ucs (R.drop i) := rcs_app ucs _ _
  rw [e, List.append_assoc, List.take_append_of_le_length (by rw [rcs_len, List.length_take]; omega)]
  exact List.take_of_length_le (by rw [rcs_len, List.length_take]; omega)
def IdP (n : Int) (w : World) (e : Ending) (w' : World) : Prop := e = .returned (.int .i64 n) ∧ Below w.heap.size w w'
/-- the first of them that is kept to, or none -/
def Ix (l : List Us) (n : Int) : Prop := (n = -1 ∧ ∀ j (h : j < l.length), usK l[j] = false) ∨ ∃ k : Nat, n = k ∧ ∃ h : k < l.length, usK l[k] = true ∧ ∀ j (h : j < l.length), j < k → usK l[j] = false
set_option maxHeartbeats 4000000 in
theorem xindex (l : List Us) (hl : l.length ≤ 1000000) (a : Option Addr) (cap : Nat) (w : World) (h : Rw 4 ucs w a l) : Calls Tryz.prog 40 #[.slice a l.length cap, .func (.func 20) #[] #[]] w (fun e w' => ∃ n, e = .returned (.int .i64 n) ∧ Hid (Ix l n ∧ Below w.heap.size w w')) := by
  have HE : Hid (Rw 4 ucs w a l) := h
  have hlz : (l.length : Int) ≤ 1000000 := by omega
  clear h
  go_enter Tryz.func40, Tryz.ntmps40
  go_wp2_with fail
  go_loopw [8] (fun i wr => ∃ k : Nat, k ≤ l.length ∧ i = .int .i64 k ∧ Hid ((∀ j (h : j < l.length), j < k → usK l[j] = false) ∧ Below w.heap.size w wr))
    (fun i _ => l.length - (intOf i).toNat)
  case atStart => exact ⟨0, Nat.zero_le _, rfl, fun j _ h => absurd h (Nat.not_lt_zero j), Below.refl _ _⟩
  case round =>
    obtain ⟨k, hk, rfl, HR⟩ := hrel
    by_cases hkn : k < l.length
    · have hkz : (k : Int) < (l.length : Int) := by omega
      obtain ⟨blk, off, rfl, hbl, hcs⟩ := HE.out (by omega)
      obtain ⟨c0, c1, c2, c3⟩ := ucs_at hcs HR.out.2 hbl hkn
      have HY : Hid (∀ w', Below w.heap.size w w' → usK l[k] = true → Ix l k ∧ Below w.heap.size w w') := fun w' hb hs => ⟨.inr ⟨k, rfl, hkn, hs, fun j hj hj2 => HR.out.1 j hj hj2⟩, hb⟩
      have HN : Hid (usK l[k] = false → ∀ j (h : j < l.length), j < k + 1 → usK l[j] = false) := fun hs j hj hk1 => by
        rcases Nat.lt_or_ge j k with h1 | h1
        · exact HR.out.1 j hj h1
        · obtain rfl : j = k := by omega
          exact hs
      have HB : Hid (Below w.heap.size w wr) := HR.out.2
      have HC : Hid (Calls Tryz.prog 20 #[.agg (ucs l[k]).toArray] wr fun e w' => e = .returned (.bool (usK l[k])) ∧ Hid (Below w.heap.size w w')) := (xkept l[k] wr).mono fun _ _ h => ⟨h.1, HB.out.trans (h.2.mono HB.out.size)⟩
      generalize hG : usK l[k] = G at *
      clear hG
      generalize l[k] = u at *
      obtain ⟨ui, us, uc, ul⟩ := u
      simp only [ucs] at *
      clear hcs HR HE
      cases G
      · go_wp2_with (go_at_call 20; refine HC.out.mono ?_; rintro e w2 ⟨rfl, HB2⟩)
        go_roundw
        case rel => exact ⟨k + 1, by omega, by simp, HN.out (by simp), HB2.out⟩
        case measure => simp [intOf]; omega
      · go_wp2_with (go_at_call 20; refine HC.out.mono ?_; rintro e w2 ⟨rfl, HB2⟩)
        go_ret
        exact ⟨_, rfl, HY.out _ HB2.out (by simp)⟩
    · have hkz : ¬ (k : Int) < (l.length : Int) := by omega
      have HF : Hid (Ix l (-1) ∧ Below w.heap.size w wr) := ⟨.inl ⟨rfl, fun j hj => HR.out.1 j hj (by omega)⟩, HR.out.2⟩
      go_wp2_with fail
      go_ret
      exact ⟨_, rfl, HF⟩
abbrev qOf (u : Us) : Bool := decide (u.l < u.c)
theorem filt_snoc (l : List Us) {j : Nat} (h : j < l.length) : (l.take (j + 1)).filter qOf = (l.take j).filter qOf ++ (if usK l[j] = true then [] else [l[j]]) := by
  rw [List.take_succ_eq_append_getElem h, List.filter_append]
  congr 1
  have := usK_not l[j]
  cases hk : usK l[j] <;> simp [qOf, this, hk]
theorem filt_all (l : List Us) : ∀ k, k ≤ l.length → (∀ j (h : j < l.length), j < k → usK l[j] = false) → (l.take k).filter qOf = l.take k
  | 0, _, _ => by simp
  | k + 1, hk, h => by
    rw [filt_snoc l (by omega), filt_all l k (by omega) (fun j hj h2 => h j hj (by omega)), if_neg (by rw [h k (by omega) (by omega)]; simp), List.take_succ_eq_append_getElem (by omega)]
/-- the row while it is being cut -/
structure Cut (l R : List Us) (i j : Nat) : Prop where
  len : R.length = l.length
  lt : i < j
  le : j ≤ l.length
  low : R.take i = (l.take j).filter qOf
  high : ∀ m (h : m < l.length), j ≤ m → R[m]'(by omega) = l[m]
theorem Cut.start {l : List Us} {k : Nat} (h : k < l.length) (h1 : usK l[k] = true) (h2 : ∀ j (h : j < l.length), j < k → usK l[j] = false) : Cut l l k (k + 1) := by
  refine ⟨rfl, by omega, by omega, ?_, fun _ _ _ => rfl⟩
  rw [filt_snoc l h, if_pos h1, List.append_nil, filt_all l k (by omega) h2]
theorem Cut.skip {l R : List Us} {i j : Nat} (h : Cut l R i j) (hj : j < l.length) (hu : usK l[j] = true) : Cut l R i (j + 1) := by
  refine ⟨h.len, by have := h.lt; omega, by omega, ?_, fun m hm hm2 => h.high m hm (by omega)⟩
  rw [filt_snoc l hj, if_pos hu, List.append_nil]
  exact h.low
theorem Cut.keep {l R : List Us} {i j : Nat} (h : Cut l R i j) (hj : j < l.length) (hu : usK l[j] = false) : Cut l (R.set i l[j]) (i + 1) (j + 1) := by
  have hi := h.lt
  have hle := h.len
  refine ⟨by rw [List.length_set]; exact h.len, by omega, by omega, ?_, fun m hm hm2 => ?_⟩
  · rw [filt_snoc l hj, if_neg (by rw [hu]; simp), ← h.low, List.take_succ_eq_append_getElem (by rw [List.length_set]; omega), List.getElem_set_self]
    congr 1
    rw [List.take_set_of_le (Nat.le_refl _)]
  · rw [List.getElem_set_ne (by omega)]
    exact h.high m hm (by omega)
set_option maxHeartbeats 16000000 in
theorem xdelete : DfOk := by
  intro B w0 w v l ho hl hB hb
  have hlz : (l.length : Int) ≤ 1000000 := by omega
  rcases ho.2 with ⟨hv, hn⟩ | ⟨g, cap, cur, hv, hBg, hg, hnc, hm, hsz, htk⟩
  · subst hv
    have hl0 : l = [] := List.length_eq_zero_iff.1 hn
    subst hl0
    have HI : Hid (Calls Tryz.prog 40 #[.slice none 0 0, .func (.func 20) #[] #[]] w (fun e w' => ∃ n, e = .returned (.int .i64 n) ∧ Hid (Ix [] n ∧ Below w.heap.size w w'))) := xindex [] hl none 0 w Rw.nil
    have HB0 : Hid (B ≤ w.heap.size ∧ Below B w0 w) := ⟨hB, hb⟩
    clear ho hn hl hB hb hlz
    go_enter Tryz.func18, Tryz.ntmps18
    go_wp2_with (go_at_call 40; refine HI.out.mono ?_; clear HI; rintro e w2 ⟨n, rfl, HZ⟩
                 obtain rfl : n = -1 := by
                   rcases HZ.out.1 with ⟨h, _⟩ | ⟨k, _, h, _⟩
                   · exact h
                   · exact absurd h (Nat.not_lt_zero _))
    go_ret
    exact ⟨_, rfl, World.ownsRow_nil _ _ _ _, HB0.out.2.trans (HZ.out.2.mono HB0.out.1)⟩
  · subst hv
    obtain ⟨tl, htl⟩ : ∃ tl, cur.toList = rcs ucs l ++ tl := ⟨cur.toList.drop (l.length * 4), by rw [← htk]; exact (List.take_append_drop _ _).symm⟩
    have hcur : cur = (rcs ucs l ++ tl).toArray := by rw [← htl]
    subst hcur
    have HD : Hid (Dl w0 w B g l tl) := ⟨hg, hb, hBg⟩
    have HCap : Hid ((rcs ucs l ++ tl).length = cap * 4 ∧ cap ≤ maxLen) := ⟨by simpa using hsz, hm⟩
    have HI : Hid (Calls Tryz.prog 40 #[.slice (some ⟨g, 0, none⟩) l.length cap, .func (.func 20) #[] #[]] w (fun e w' => ∃ n, e = .returned (.int .i64 n) ∧ Hid (Ix l n ∧ Below w.heap.size w w'))) := xindex l hl _ cap w (fun h0 => ⟨g, 0, rfl, HD.out.b.lt, fun i hi j hj => by
      have h := HD.out.b.cell (i * 4 + j)
      rw [List.getElem?_toArray, rcs_at tl hi hj] at h
      rw [Nat.zero_add]
      exact h⟩)
    obtain ⟨F, hF⟩ : ∃ F, F = l.filter qOf := ⟨_, rfl⟩
    change Calls _ _ _ _ (fun e w' => ∃ v', e = .returned v' ∧ Hid (w'.ownsRow B 59 4 v' (l.filter qOf).length (rcs ucs (l.filter qOf)) ∧ Below B w0 w'))
    rw [← hF]
    have HF : Hid (F = l.filter qOf) := hF
    clear ho hB hb hg hm hsz htk htl hF hBg hl
    go_enter Tryz.func18, Tryz.ntmps18
    go_upto_region 2 with (go_at_call 40; refine HI.out.mono ?_; clear HI; rintro e w2 ⟨n, rfl, HZ⟩)
    have HD2 : Hid (Dl w0 w2 B g l tl) := HD.out.below HD.out.size HZ.out.2
    have hix := HZ.out.1
    clear HZ HD
    rcases hix with ⟨rfl, hall⟩ | ⟨k0, rfl, hk0, hk1, hk2⟩
    · have HE : Hid (w2.ownsRow B 59 4 (.slice (some ⟨g, 0, none⟩) l.length cap) F.length (rcs ucs F) ∧ Below B w0 w2) := by
        have e : F = l := by
          have := filt_all l l.length (Nat.le_refl _) (fun j hj _ => hall j hj)
          rw [List.take_length] at this
          rw [HF.out, this]
        rw [e]
        refine ⟨⟨by rw [rcs_len], .inr ⟨g, cap, _, rfl, HD2.out.g, HD2.out.b, hnc, HCap.out.2, by simpa using HCap.out.1, ?_⟩⟩, HD2.out.k⟩
        show (rcs ucs l ++ tl).take (l.length * 4) = _
        rw [List.take_append_of_le_length (by rw [rcs_len]; omega)]
        exact List.take_of_length_le (by rw [rcs_len]; omega)
      clear hall
      go_wp2_with fail
      go_ret
      exact ⟨_, rfl, HE⟩
    · have HC0 : Hid (Cut l l k0 (k0 + 1)) := Cut.start hk0 hk1 hk2
      have hk0z : (k0 : Int) < l.length := by omega
      clear hk1 hk2
      have hne1 : ((k0 : Int) == -1) = false := beq_eq_false_iff_ne.2 (by omega)
      go_wp2_with fail
      go_loopw [5, 6] (fun iv jv wr => ∃ (i j : Nat) (R : List Us), iv = .int .i64 i ∧ jv = .int .i64 j ∧ j ≤ l.length ∧ i < j ∧ Hid (Cut l R i j ∧ Dl w0 wr B g R tl))
        (fun _ jv _ => l.length - (intOf jv).toNat)
      case atStart => exact ⟨k0, k0 + 1, l, rfl, by simp, by omega, by omega, HC0.out, HD2.out⟩
      case round =>
        obtain ⟨i, j, R, rfl, rfl, hj, hij, HR⟩ := hrel
        clear HC0 HD2 hk0 hk0z
        have hR := HR.out.1.len
        by_cases hjn : j < l.length
        · have hjz : (j : Int) < (l.length : Int) := by omega
          have hiz : (i : Int) < (l.length : Int) := by omega
          have hat := HR.out.2.at (k := j) (by omega)
          have hhi := HR.out.1.high j hjn (Nat.le_refl _)
          rw [hhi] at hat
          obtain ⟨c0, c1, c2, c3⟩ := hat
          obtain ⟨wa, hwa⟩ : ∃ wa, wr.alloc (.cells (ucs l[j]).toArray 59) = wa := ⟨_, rfl⟩
          have HDa : Hid (Dl w0 wa B g R tl) := by rw [← hwa]; exact HR.out.2.below HR.out.2.size (below_a _ _)
          have HXa : Hid (Bx wa wr.heap.size (ucs l[j]).toArray 59) := by rw [← hwa]; exact Bx.new _ _ _
          have HV : Hid (Calls Tryz.prog 20 #[.agg (ucs l[j]).toArray] wa fun e w' => e = .returned (.bool (usK l[j])) ∧ Hid (Dl w0 w' B g R tl ∧ Bx w' wr.heap.size (ucs l[j]).toArray 59)) := (xkept l[j] wa).mono fun _ _ h => ⟨h.1, HDa.out.below HDa.out.size h.2, HXa.out.below h.2 HXa.out.lt⟩
          have hx0 : wa.cell? ⟨wr.heap.size, 0, none⟩ = some (.int .i64 l[j].i) := HXa.out.cell 0
          have hx1 : wa.cell? ⟨wr.heap.size, 1, none⟩ = some (.string ⟨l[j].s.toArray⟩) := HXa.out.cell 1
          have hx2 : wa.cell? ⟨wr.heap.size, 2, none⟩ = some (.int .i64 l[j].c) := HXa.out.cell 2
          have hx3 : wa.cell? ⟨wr.heap.size, 3, none⟩ = some (.int .i64 l[j].l) := HXa.out.cell 3
          have HS : Hid (usK l[j] = true → Cut l R i (j + 1)) := fun h => HR.out.1.skip hjn h
          have HKp : Hid (usK l[j] = false → Cut l (R.set i l[j]) (i + 1) (j + 1)) := fun h => HR.out.1.keep hjn h
          have HPt : Hid (∀ w', Dl w0 w' B g R tl → Dl w0 ((((w'.setCell ⟨g, i * 4, none⟩ (.int .i64 l[j].i)).setCell ⟨g, i * 4 + 1, none⟩ (.string ⟨l[j].s.toArray⟩)).setCell ⟨g, i * 4 + 2, none⟩ (.int .i64 l[j].c)).setCell ⟨g, i * 4 + 3, none⟩ (.int .i64 l[j].l)) B g (R.set i l[j]) tl) := fun w' h => h.put (by omega) l[j]
          have hiR : i < R.length := by omega
          clear hhi HR HDa HXa
          generalize hG : usK l[j] = G at *
          clear hG
          generalize l[j] = u at *
          obtain ⟨ui, us, uc, ul⟩ := u
          simp only [ucs] at *
          cases G
          · have HCn := hid_in (HKp.out (by simp))
            clear HS HKp
            go_upto_region 8 with fail
            try rw [hwa]
            clear hwa c0 c1 c2 c3
            generalize wr.heap.size = gx at *
            go_wp2_with (go_at_call 20; refine HV.out.mono ?_; clear HV hx0 hx1 hx2 hx3; rintro e w3 ⟨rfl, HY⟩
                         have y0 : w3.cell? ⟨gx, 0, none⟩ = some (.int .i64 ui) := HY.out.2.cell 0
                         have y1 : w3.cell? ⟨gx, 1, none⟩ = some (.string ⟨us.toArray⟩) := HY.out.2.cell 1
                         have y2 : w3.cell? ⟨gx, 2, none⟩ = some (.int .i64 uc) := HY.out.2.cell 2
                         have y3 : w3.cell? ⟨gx, 3, none⟩ = some (.int .i64 ul) := HY.out.2.cell 3
                         obtain ⟨q0, q1, q2, q3⟩ := HY.out.1.at hiR
                         have p0 : w3.frozen? ⟨g, i * 4, none⟩ = false := HY.out.1.b.froz _
                         have p1 : w3.frozen? ⟨g, i * 4 + 1, none⟩ = false := HY.out.1.b.froz _
                         have p2 : w3.frozen? ⟨g, i * 4 + 2, none⟩ = false := HY.out.1.b.froz _
                         have p3 : w3.frozen? ⟨g, i * 4 + 3, none⟩ = false := HY.out.1.b.froz _)
            go_roundw
            case rel => exact ⟨i + 1, j + 1, _, by simp, by simp, by omega, by omega, HCn.out, HPt.out _ HY.out.1⟩
            case measure => simp [intOf]; omega
          · have HCn := hid_in (HS.out (by simp))
            clear HS HKp HPt
            go_upto_region 8 with fail
            try rw [hwa]
            clear hwa c0 c1 c2 c3
            go_wp2_with (go_at_call 20; refine HV.out.mono ?_; clear HV; rintro e w3 ⟨rfl, HY⟩)
            go_roundw
            case rel => exact ⟨i, j + 1, R, rfl, by simp, by omega, by omega, HCn.out, HY.out.1⟩
            case measure => simp [intOf]; omega
        · have hjz : ¬ (j : Int) < (l.length : Int) := by omega
          have hiz : (i : Int) ≤ (l.length : Int) := by omega
          have hle : i ≤ l.length := by omega
          have hicap : (l.length : Int) ≤ (cap : Int) := by omega
          have HCl : Hid (∀ ty, ∃ W', (Builtin.clear_ #[28] ty #[.slice (some ⟨g, i * 4, none⟩) (l.length - i) (cap - i)]).run Tryz.prog wr = .ok (.tuple #[]) W' ∧ Hid (W'.ownsRow B 59 4 (.slice (some ⟨g, 0, none⟩) i cap) F.length (rcs ucs F) ∧ Below B w0 W')) := fun ty => by
            have hl2 := HR.out.1.low
            rw [show j = l.length by omega, List.take_length, ← HF.out] at hl2
            obtain ⟨W', h1, h2, h3⟩ := HR.out.2.clear (cap := cap) ty (i := i) (c := cap - i) (by omega) (by have := HCap.out.1; rw [List.length_append, rcs_len] at this ⊢; omega) HCap.out.2
            rw [hl2] at h2
            have e : i = F.length := by rw [← hl2, List.length_take]; omega
            rw [hR] at h1
            refine ⟨W', h1, ?_, h3⟩
            rw [← e]
            exact h2
          clear HR
          obtain ⟨W', hW', HY⟩ := HCl.out 0
          clear HCl
          go_wp2_with fail
          go_ret
          exact ⟨_, rfl, HY⟩
end Go.Proofs.YtdfadcbchiogjaaGreat
