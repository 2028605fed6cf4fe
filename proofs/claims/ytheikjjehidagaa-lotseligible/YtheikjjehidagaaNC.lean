/- layer 17: lists checked, by both; a quantity; lists alike -/
import Derived.Test.YtheikjjehidagaaNB
import Derived.WalkKit
import Derived.ProofKit
import Derived.Handy
import Derived.WalkLawsBesides
import Derived.WalkSpells
import Derived.BigQuiet
import Derived.BigCall
import Derived.Deep.QuietTactic
import Derived.Deep.Light
import Derived.Deep.OwnRows
import Derived.Laws.AppendOwnNone
import Derived.Laws.Strings3
import Derived.Laws.RangeAny
import Derived.Deep.RegionWith
import Derived.Lib.BitFns
import Derived.Lib.Walk
import Derived.Lib.Strings
import Derived.Lib.OthersKept
import Derived.Deep.CutBlock
import Derived.Deep.DeepCutAuto
import Derived.Deep.LoopGhost
import Derived.Deep.RegionHeld3
import Derived.Lib.SmallJoins
import Derived.Maps.AppendAt
import Derived.Laws.IdiomStrings
import Derived.Lib.AppendZeros
import Derived.Deep.WholeRow
import Derived.Laws.BitsAllLaws
import Derived.Lib.ConvBytes
import Derived.Deep.RegionLaw
import Derived.Maps.OwnSet
import Derived.Maps.OwnOps
import Derived.Maps.RangeWalk
import Derived.Maps.Ext
import Derived.DeepKeys4
import Derived.Laws.StructEq
import Derived.Deep.MidRow
import Derived.Lib.Bytealg
import Derived.Lib.AppendZerosOnto
import Derived.Laws.MakeOwn
import Derived.Deep.Upon
import Derived.Sort.KeysCollected
namespace Go.Proofs.Ytheikjjehidagaa
open Go.RowKit
set_option linter.unusedVariables false
set_option linter.unusedSimpArgs false
set_option maxRecDepth 20000
/-- the first that is wrong -/
def fb (f : Nat → Nat) : Nat → Nat → Nat × Nat
  | 0, k => (k, 0)
  | n + 1, k => if f k = 0 then fb f n (k + 1) else (k, f k)
theorem fb_at {f : Nat → Nat} : ∀ {n m k : Nat}, m ≤ k → k < m + n → (∀ j, m ≤ j → j < k → f j = 0) → f k ≠ 0 → fb f n m = (k, f k)
  | 0, m, k, h1, h2, _, _ => by omega
  | n + 1, m, k, h1, h2, h3, h4 => by
    unfold fb
    by_cases e : m = k
    · subst e
      rw [if_neg h4]
    · rw [if_pos (h3 m (Nat.le_refl _) (by omega))]
      exact fb_at (by omega) (by omega) (fun j h5 h6 => h3 j (by omega) h6) h4
theorem fb_end {f : Nat → Nat} : ∀ {n m : Nat}, (∀ j, m ≤ j → j < m + n → f j = 0) → fb f n m = (m + n, 0)
  | 0, m, h => by simp [fb]
  | n + 1, m, h => by
    unfold fb
    rw [if_pos (h m (Nat.le_refl _) (by omega)), fb_end (fun j h1 h2 => h j (by omega) (by omega))]
    simp only [Prod.mk.injEq, and_true]
    omega
theorem fb_zero {f : Nat → Nat} : ∀ {n m : Nat}, (fb f n m).2 = 0 → ∀ j, m ≤ j → j < m + n → f j = 0
  | 0, m, _, j, h1, h2 => by omega
  | n + 1, m, h, j, h1, h2 => by
    unfold fb at h
    by_cases e : f m = 0
    · rw [if_pos e] at h
      by_cases e2 : j = m
      · rw [e2]; exact e
      · exact fb_zero h j (by omega) (by omega)
    · rw [if_neg e] at h
      exact absurd h e
def lkey (L : List Lt) (k : Nat) : List UInt8 := match L[k]? with
  | some x => key x
  | none => []
def lqty (L : List Lt) (k : Nat) : Int := match L[k]? with
  | some x => x.n
  | none => 0
theorem lkey_at {L : List Lt} {k : Nat} (h : k < L.length) : lkey L k = key L[k] := by unfold lkey; rw [List.getElem?_eq_getElem h]
theorem lqty_at {L : List Lt} {k : Nat} (h : k < L.length) : lqty L k = L[k].n := by unfold lqty; rw [List.getElem?_eq_getElem h]
def bad (L : List Lt) (k : Nat) : Nat := if okq (lqty L k) then (if 0 < k ∧ ¬ lkey L (k - 1) < lkey L k then 7 else 0) else 1
def chk (L : List Lt) : Nat × Nat := if 64 < L.length then (0, 2) else fb (bad L) L.length 0
theorem srt_adj : ∀ {L : List Lt}, (∀ j (h : j + 1 < L.length), key L[j] < key L[j + 1]) → Srt L
  | [], _ => List.Pairwise.nil
  | [x], _ => List.pairwise_singleton _ _
  | x :: y :: r, h => by
    have h1 : Srt (y :: r) := srt_adj fun j hj => by
      have := h (j + 1) (by simp at hj ⊢; omega)
      simpa using this
    have h0 : key x < key y := h 0 (by simp)
    refine List.pairwise_cons.2 ⟨fun z hz => ?_, h1⟩
    rcases List.mem_cons.1 hz with rfl | hz
    · exact h0
    · exact lt_tr h0 ((srt_cons h1).1 z hz)
theorem chk_good {L : List Lt} : (chk L).2 = 0 ↔ Good L := by
  unfold chk
  constructor
  · intro h
    split at h
    · cases h
    · rename_i h1
      have h2 := fb_zero h
      refine ⟨srt_adj fun j hj => ?_, by omega, fun x hx => ?_⟩
      · have := h2 (j + 1) (by omega) (by omega)
        unfold bad at this
        split at this
        · split at this
          · cases this
          · rename_i h3 h4
            rw [Nat.add_sub_cancel, lkey_at hj, lkey_at (by omega)] at h4
            exact Classical.byContradiction fun h5 => h4 ⟨by omega, h5⟩
        · cases this
      · obtain ⟨j, hj, rfl⟩ := List.getElem_of_mem hx
        have := h2 j (by omega) (by omega)
        unfold bad at this
        rw [lqty_at hj] at this
        split at this
        · rename_i h3; exact h3
        · cases this
  · intro g
    rw [if_neg (by have := g.len; omega), fb_end]
    intro j _ hj
    have hj' : j < L.length := by omega
    unfold bad
    rw [lqty_at hj', if_pos (g.ok _ (List.getElem_mem hj')), if_neg]
    rintro ⟨h1, h2⟩
    rw [lkey_at hj', lkey_at (by omega)] at h2
    exact h2 (List.pairwise_iff_getElem.1 g.srt (j - 1) j (by omega) hj' (by omega))
def CkP (L : List Lt) (w : World) (e : Ending) (w' : World) : Prop := e = .returned (.tuple #[.int .i64 (chk L).1, .int .i64 (chk L).2]) ∧ Below w.heap.size w w'
theorem below_q {B : Nat} {w wr : World} (h : Below B w wr) (k : Nat) : Below B w (wr.drewN k) := h.trans ⟨rfl, rfl, rfl, Nat.le_refl _, fun _ _ => rfl⟩
theorem bs_lt {x y : ByteArray} (h : x.toList < y.toList) : Op.bytesLess y.toList x.toList = false ∧ (y.toList == x.toList) = false ∧ Op.bytesLess x.toList y.toList = true ∧ (x.toList == y.toList) = false := by
  refine ⟨?_, ?_, ?_, ?_⟩
  · rw [bl_eq]; exact decide_eq_false (fun k => lt_ir _ (lt_tr h k))
  · rw [beq_eq_false_iff_ne]; intro e; rw [e] at h; exact lt_ir _ h
  · rw [bl_eq]; exact decide_eq_true h
  · rw [beq_eq_false_iff_ne]; intro e; rw [e] at h; exact lt_ir _ h
theorem bs_eq {x y : ByteArray} (h : x.toList = y.toList) : Op.bytesLess y.toList x.toList = false ∧ (y.toList == x.toList) = true ∧ Op.bytesLess x.toList y.toList = false ∧ (x.toList == y.toList) = true := by
  refine ⟨?_, ?_, ?_, ?_⟩
  · rw [bl_eq, h]; exact decide_eq_false (lt_ir _)
  · rw [beq_iff_eq]; exact h.symm
  · rw [bl_eq, h]; exact decide_eq_false (lt_ir _)
  · rw [beq_iff_eq]; exact h
theorem chk_long {L : List Lt} (h : 64 < L.length) : chk L = (0, 2) := if_pos h
theorem chk_at {L : List Lt} {k : Nat} (hl : ¬ 64 < L.length) (hk : k < L.length) (h : ∀ j, j < k → bad L j = 0) (hb : bad L k ≠ 0) : chk L = (k, bad L k) := by
  unfold chk
  rw [if_neg hl]
  exact fb_at (Nat.zero_le _) (by omega) (fun j _ hj => h j hj) hb
theorem chk_end {L : List Lt} (hl : ¬ 64 < L.length) (h : ∀ j, j < L.length → bad L j = 0) : chk L = (L.length, 0) := by
  unfold chk
  rw [if_neg hl, fb_end (fun j _ hj => h j (by omega)), Nat.zero_add]
theorem bad_arg {L : List Lt} {k : Nat} (hk : k < L.length) (h : ¬ okq L[k].n) : bad L k = 1 := by unfold bad; rw [lqty_at hk, if_neg h]
theorem bad_twice {L : List Lt} {k : Nat} (hk : k < L.length) (h : okq L[k].n) (h0 : 0 < k) (h1 : ¬ key L[k - 1] < key L[k]) : bad L k = 7 := by unfold bad; rw [lqty_at hk, if_pos h, if_pos ⟨h0, by rw [lkey_at hk, lkey_at (by omega)]; exact h1⟩]
theorem bad_first {L : List Lt} {k : Nat} (hk : k < L.length) (h : okq L[k].n) (h0 : ¬ 0 < k) : bad L k = 0 := by unfold bad; rw [lqty_at hk, if_pos h, if_neg (by omega)]
theorem bad_fine {L : List Lt} {k : Nat} (hk : k < L.length) (h : okq L[k].n) (h0 : 0 < k) (h1 : key L[k - 1] < key L[k]) : bad L k = 0 := by unfold bad; rw [lqty_at hk, if_pos h, if_neg (by rw [lkey_at hk, lkey_at (by omega)]; exact fun hh => hh.2 h1)]
set_option maxHeartbeats 16000000 in
theorem xcheck (L : List Lt) (hl : L.length ≤ 1000000) (a : Option Addr) (cap : Nat) (w : World) (h : Rw 2 lcs w a L) : Calls Try.prog 9 #[.slice a L.length cap] w (CkP L w) := by
  have HE : Hid (Rw 2 lcs w a L) := h
  have hlz : (L.length : Int) ≤ 1000000 := by omega
  clear h
  by_cases h64 : 64 < L.length
  · have h64z : (64 : Int) < (L.length : Int) := by omega
    unfold CkP
    rw [chk_long h64]
    go_enter Try.func9, Try.ntmps9
    go_wp2_with fail
    go_ret2
    exact ⟨rfl, Below.refl _ _⟩
  · have h64z : ¬ (64 : Int) < (L.length : Int) := by omega
    go_enter Try.func9, Try.ntmps9
    go_wp2_with fail
    go_loopw [11] (fun i wr => ∃ k : Nat, k ≤ L.length ∧ i = .int .i64 k ∧ Hid ((∀ j, j < k → bad L j = 0) ∧ Below w.heap.size w wr))
      (fun i _ => L.length - (intOf i).toNat)
    case atStart => exact ⟨0, Nat.zero_le _, rfl, fun j hj => by omega, Below.refl _ _⟩
    case round =>
      obtain ⟨k, hk, rfl, HR⟩ := hrel
      by_cases hkn : k < L.length
      · have hkz : (k : Int) < (L.length : Int) := by omega
        obtain ⟨blk, off, rfl, hbl, hcs⟩ := HE.out (by omega)
        obtain ⟨c0, c1⟩ := Rw.at2 hcs HR.out.2 hbl hkn
        have HB1 : Hid (∀ q, Below w.heap.size w ((wr.alloc (.cells (lcs L[k]).toArray 43)).drewN q)) := fun q => below_q (HR.out.2.alloc HR.out.2.size _) q
        have HG : Hid (∀ w, Calls Try.prog 39 #[.int .i64 L[k].n] w (BoP (decide (okq L[k].n)) w)) := fun w => xgoodq _ w
        by_cases hq : okq L[k].n
        · rw [decide_eq_true hq] at HG
          by_cases h0 : 0 < k
          · have h0z : (0 : Int) < (k : Int) := by omega
            have hk1 : k - 1 < L.length := by omega
            obtain ⟨d0, d1⟩ := Rw.at2 hcs HR.out.2 hbl hk1
            obtain ⟨kp, hkp⟩ : ∃ kp, kp = k - 1 := ⟨_, rfl⟩
            have hkpz : (k : Int) - 1 = (kp : Int) := by omega
            have hkw : IntKind.i64.wrap (kp : Int) = (kp : Int) := by rw [IntKind.wrap_i64]; omega
            have hkl : (kp : Int) < (L.length : Int) := by omega
            have hkw2 : wrap64 (kp : Int) = (kp : Int) := by unfold wrap64; omega
            have hbl2 : blk < wr.heap.size := Nat.lt_of_lt_of_le hbl HR.out.2.size
            have hd0 : ∀ o, (wr.alloc o).cell? ⟨blk, off + kp * 2, none⟩ = some (.string L[k - 1].i) := fun o => by
              rw [hkp]
              exact (((Below.refl wr.heap.size wr).alloc (Nat.le_refl _) o).cell (p := ⟨blk, off + (k - 1) * 2, none⟩) hbl2).trans d0
            have HT : Hid (¬ key L[k - 1] < key L[k] → chk L = (k, 7)) := fun hn => by
              have hb := bad_twice hkn hq h0 hn
              rw [← hb]
              exact chk_at h64 hkn HR.out.1 (by rw [hb]; decide)
            have HF : Hid (key L[k - 1] < key L[k] → ∀ j, j < k + 1 → bad L j = 0) := fun hn j hj => by
              by_cases e : j = k
              · rw [e]; exact bad_fine hkn hq h0 hn
              · exact HR.out.1 j (by omega)
            have HKy : Hid (key L[k - 1] = L[k - 1].i.toList ∧ key L[k] = L[k].i.toList) := ⟨rfl, rfl⟩
            rw [HKy.out.1, HKy.out.2] at HT HF
            clear hcs d0 d1 HR HE HKy hkp hq
            generalize L[k - 1] = y at *
            generalize L[k] = x at *
            obtain ⟨xi, xn⟩ := x
            obtain ⟨yi, yn⟩ := y
            simp only [lcs] at *
            by_cases hlt : yi.toList < xi.toList
            · obtain ⟨b1, b2, b3, b4⟩ := bs_lt hlt
              have HF2 := hid_in (HF.out hlt)
              clear HF HT hlt
              have hd1 := hd0 (.cells #[.string xi, .int .i64 xn] 43)
              clear hd0
              go_upto_region 8 with (go_at_call 39; refine (HG.out _).mono ?_; rintro e w2 ⟨rfl, rfl⟩)
              go_quiet (fail)
              go_wp2_with fail
              go_roundw
              case rel => exact ⟨k + 1, by omega, by simp, HF2.out, HB1.out _⟩
              case measure => simp [intOf]; omega
            · have HT2 := hid_in (HT.out hlt)
              clear HF HT
              have hd1 := hd0 (.cells #[.string xi, .int .i64 xn] 43)
              clear hd0
              by_cases he : xi.toList < yi.toList
              · obtain ⟨b1, b2, b3, b4⟩ := bs_lt he
                clear he hlt
                go_upto_region 8 with (go_at_call 39; refine (HG.out _).mono ?_; rintro e w2 ⟨rfl, rfl⟩)
                go_quiet (fail)
                go_wp2_with fail
                go_ret2
                exact ⟨(by first | (rw [HT2.out]; done) | (rw [HT2.out]; rfl)), HB1.out _⟩
              · obtain ⟨b1, b2, b3, b4⟩ := bs_eq (nlt_eq hlt he)
                clear he hlt
                go_upto_region 8 with (go_at_call 39; refine (HG.out _).mono ?_; rintro e w2 ⟨rfl, rfl⟩)
                go_quiet (fail)
                go_wp2_with fail
                go_ret2
                exact ⟨(by first | (rw [HT2.out]; done) | (rw [HT2.out]; rfl)), HB1.out _⟩
          · have h0z : ¬ (0 : Int) < (k : Int) := by omega
            have HF2 : Hid (∀ j, j < k + 1 → bad L j = 0) := fun j hj => by
              obtain rfl : j = k := by omega
              exact bad_first hkn hq h0
            clear hcs HR HE hq
            generalize L[k] = x at *
            obtain ⟨xi, xn⟩ := x
            simp only [lcs] at *
            go_upto_region 8 with (go_at_call 39; refine (HG.out _).mono ?_; rintro e w2 ⟨rfl, rfl⟩)
            go_quiet (fail)
            go_wp2_with fail
            go_roundw
            case rel => exact ⟨k + 1, by omega, by simp, HF2.out, HB1.out _⟩
            case measure => simp [intOf]; omega
        · rw [decide_eq_false hq] at HG
          have HT : Hid (chk L = (k, 1)) := by
            have hb := bad_arg hkn hq
            unfold Hid
            rw [← hb]
            exact chk_at h64 hkn HR.out.1 (by rw [hb]; decide)
          have HB2 : Hid (Below w.heap.size w (wr.alloc (.cells (lcs L[k]).toArray 43))) := HB1.out 0
          clear hcs HR HE hq
          generalize L[k] = x at *
          obtain ⟨xi, xn⟩ := x
          simp only [lcs] at *
          go_wp2_with (go_at_call 39; refine (HG.out _).mono ?_; rintro e w2 ⟨rfl, rfl⟩)
          go_ret2
          exact ⟨(by first | (rw [HT.out]; done) | (rw [HT.out]; rfl)), HB2.out⟩
      · have hkz : ¬ (k : Int) < (L.length : Int) := by omega
        have HCk : Hid (chk L = (L.length, 0)) := chk_end h64 (fun j hj => HR.out.1 j (by omega))
        have HB1 : Hid (Below w.heap.size w wr) := HR.out.2
        clear HR
        go_wp2_with fail
        go_ret2
        refine ⟨?_, HB1.out⟩
        rw [HCk.out]
        rfl
set_option maxHeartbeats 16000000 in
theorem rcheck (L : List Lt) (hl : L.length ≤ 1000000) (a : Option Addr) (cap : Nat) (w : World) (h : Rw 2 lcs w a L) : Calls Try.prog 10 #[.slice a L.length cap] w (CkP L w) := by
  have HE : Hid (Rw 2 lcs w a L) := h
  have hlz : (L.length : Int) ≤ 1000000 := by omega
  clear h
  by_cases h64 : 64 < L.length
  · have h64z : (64 : Int) < (L.length : Int) := by omega
    unfold CkP
    rw [chk_long h64]
    go_enter Try.func10, Try.ntmps10
    go_wp2_with fail
    go_ret2
    exact ⟨rfl, Below.refl _ _⟩
  · have h64z : ¬ (64 : Int) < (L.length : Int) := by omega
    go_enter Try.func10, Try.ntmps10
    go_wp2_with fail
    go_loopw [4] (fun i wr => ∃ k : Nat, k ≤ L.length ∧ i = .int .i64 k ∧ Hid ((∀ j, j < k → bad L j = 0) ∧ Below w.heap.size w wr))
      (fun i _ => L.length - (intOf i).toNat)
    case atStart => exact ⟨0, Nat.zero_le _, rfl, fun j hj => by omega, Below.refl _ _⟩
    case round =>
      obtain ⟨k, hk, rfl, HR⟩ := hrel
      by_cases hkn : k < L.length
      · have hkz : (k : Int) < (L.length : Int) := by omega
        obtain ⟨blk, off, rfl, hbl, hcs⟩ := HE.out (by omega)
        obtain ⟨c0, c1⟩ := Rw.at2 hcs HR.out.2 hbl hkn
        have HB1 : Hid (∀ q, Below w.heap.size w (wr.drewN q)) := fun q => below_q HR.out.2 q
        have HG : Hid (∀ w, Calls Try.prog 40 #[.int .i64 L[k].n] w (BoP (decide (okq L[k].n)) w)) := fun w => rgoodq _ w
        by_cases hq : okq L[k].n
        · rw [decide_eq_true hq] at HG
          by_cases h0 : 0 < k
          · have h0z : (0 : Int) < (k : Int) := by omega
            have hk1 : k - 1 < L.length := by omega
            obtain ⟨d0, d1⟩ := Rw.at2 hcs HR.out.2 hbl hk1
            obtain ⟨kp, hkp⟩ : ∃ kp, kp = k - 1 := ⟨_, rfl⟩
            have hkpz : (k : Int) - 1 = (kp : Int) := by omega
            have hkw : IntKind.i64.wrap (kp : Int) = (kp : Int) := by rw [IntKind.wrap_i64]; omega
            have hkl : (kp : Int) < (L.length : Int) := by omega
            have hkw2 : wrap64 (kp : Int) = (kp : Int) := by unfold wrap64; omega
            have HT : Hid (¬ key L[k - 1] < key L[k] → chk L = (k, 7)) := fun hn => by
              have hb := bad_twice hkn hq h0 hn
              rw [← hb]
              exact chk_at h64 hkn HR.out.1 (by rw [hb]; decide)
            have HF : Hid (key L[k - 1] < key L[k] → ∀ j, j < k + 1 → bad L j = 0) := fun hn j hj => by
              by_cases e : j = k
              · rw [e]; exact bad_fine hkn hq h0 hn
              · exact HR.out.1 j (by omega)
            have HKy : Hid (key L[k - 1] = L[k - 1].i.toList ∧ key L[k] = L[k].i.toList) := ⟨rfl, rfl⟩
            rw [HKy.out.1, HKy.out.2] at HT HF
            have d0' : wr.cell? ⟨blk, off + kp * 2, none⟩ = some (.string L[k - 1].i) := by rw [hkp]; exact d0
            clear hcs d0 d1 HR HE HKy hkp hq
            generalize L[k - 1] = y at *
            generalize L[k] = x at *
            obtain ⟨xi, xn⟩ := x
            obtain ⟨yi, yn⟩ := y
            simp only [lcs] at *
            by_cases hlt : yi.toList < xi.toList
            · obtain ⟨b1, b2, b3, b4⟩ := bs_lt hlt
              have HF2 := hid_in (HF.out hlt)
              clear HF HT hlt
              go_upto_region 8 with (go_at_call 40; refine (HG.out _).mono ?_; rintro e w2 ⟨rfl, rfl⟩)
              go_quiet (fail)
              go_wp2_with fail
              go_roundw
              case rel => exact ⟨k + 1, by omega, by simp, HF2.out, HB1.out _⟩
              case measure => simp [intOf]; omega
            · have HT2 := hid_in (HT.out hlt)
              clear HF HT
              by_cases he : xi.toList < yi.toList
              · obtain ⟨b1, b2, b3, b4⟩ := bs_lt he
                clear he hlt
                go_upto_region 8 with (go_at_call 40; refine (HG.out _).mono ?_; rintro e w2 ⟨rfl, rfl⟩)
                go_quiet (fail)
                go_wp2_with fail
                go_ret2
                exact ⟨(by first | (rw [HT2.out]; done) | (rw [HT2.out]; rfl)), HB1.out _⟩
              · obtain ⟨b1, b2, b3, b4⟩ := bs_eq (nlt_eq hlt he)
                clear he hlt
                go_upto_region 8 with (go_at_call 40; refine (HG.out _).mono ?_; rintro e w2 ⟨rfl, rfl⟩)
                go_quiet (fail)
                go_wp2_with fail
                go_ret2
                exact ⟨(by first | (rw [HT2.out]; done) | (rw [HT2.out]; rfl)), HB1.out _⟩
          · have h0z : ¬ (0 : Int) < (k : Int) := by omega
            have HF2 : Hid (∀ j, j < k + 1 → bad L j = 0) := fun j hj => by
              obtain rfl : j = k := by omega
              exact bad_first hkn hq h0
            clear hcs HR HE hq
            generalize L[k] = x at *
            obtain ⟨xi, xn⟩ := x
            simp only [lcs] at *
            go_upto_region 8 with (go_at_call 40; refine (HG.out _).mono ?_; rintro e w2 ⟨rfl, rfl⟩)
            go_quiet (fail)
            go_wp2_with fail
            go_roundw
            case rel => exact ⟨k + 1, by omega, by simp, HF2.out, HB1.out _⟩
            case measure => simp [intOf]; omega
        · rw [decide_eq_false hq] at HG
          have HT : Hid (chk L = (k, 1)) := by
            have hb := bad_arg hkn hq
            unfold Hid
            rw [← hb]
            exact chk_at h64 hkn HR.out.1 (by rw [hb]; decide)
          have HB2 : Hid (Below w.heap.size w wr) := HB1.out 0
          clear hcs HR HE hq
          generalize L[k] = x at *
          obtain ⟨xi, xn⟩ := x
          simp only [lcs] at *
          go_wp2_with (go_at_call 40; refine (HG.out _).mono ?_; rintro e w2 ⟨rfl, rfl⟩)
          go_ret2
          exact ⟨(by first | (rw [HT.out]; done) | (rw [HT.out]; rfl)), HB2.out⟩
      · have hkz : ¬ (k : Int) < (L.length : Int) := by omega
        have HCk : Hid (chk L = (L.length, 0)) := chk_end h64 (fun j hj => HR.out.1 j (by omega))
        have HB1 : Hid (Below w.heap.size w wr) := HR.out.2
        clear HR
        go_wp2_with fail
        go_ret2
        refine ⟨?_, HB1.out⟩
        rw [HCk.out]
        rfl
def BbP (b : Bool) (w : World) (e : Ending) (w' : World) : Prop := e = .returned (.bool b) ∧ Below w.heap.size w w'
def goodB (L : List Lt) : Bool := (chk L).2 == 0
theorem goodB_iff {L : List Lt} : goodB L = true ↔ Good L := by unfold goodB; rw [beq_iff_eq]; exact chk_good
theorem rgood {L : List Lt} (hl : L.length ≤ 1000000) (a : Option Addr) (cap : Nat) (w : World) (h : Rw 2 lcs w a L) : Calls Try.prog 14 #[.slice a L.length cap] w (BbP (goodB L) w) := by
  have HC : Hid (Calls Try.prog 10 #[.slice a L.length cap] w fun e w' => e = .returned (.tuple #[.int .i64 (chk L).1, .int .i64 (chk L).2]) ∧ Hid (Below w.heap.size w w')) := rcheck L hl a cap w h
  have hz : (((chk L).2 : Int) == 0) = goodB L := by
    unfold goodB
    rw [Bool.eq_iff_iff, beq_iff_eq, beq_iff_eq]
    omega
  unfold BbP
  clear h
  generalize (chk L).1 = k at *
  generalize (chk L).2 = e at *
  generalize goodB L = g at *
  go_enter Try.func14, Try.ntmps14
  go_wp2_with (go_at_call 10; refine HC.out.mono ?_; clear HC; rintro e w2 ⟨rfl, HB⟩)
  go_ret
  exact ⟨rfl, HB.out⟩
theorem qty_first {s : List UInt8} : ∀ {L : List Lt} {k : Nat} (hk : k < L.length), (∀ j (hj : j < k), key (L[j]'(by omega)) ≠ s) → key L[k] = s → qty L s = L[k].n
  | [], k, hk, _, _ => by simp at hk
  | x :: r, 0, hk, _, h => by
    have h : key x = s := h
    unfold qty
    rw [if_pos h]
    rfl
  | x :: r, k + 1, hk, h1, h => by
    have h0 : key x ≠ s := h1 0 (by omega)
    unfold qty
    rw [if_neg h0]
    exact qty_first (L := r) (k := k) (by simpa using hk) (fun j hj => h1 (j + 1) (by omega)) h
def QtP (L : List Lt) (s : List UInt8) (w : World) (e : Ending) (w' : World) : Prop := e = .returned (.int .i64 (qty L s)) ∧ Below w.heap.size w w'
set_option maxHeartbeats 16000000 in
theorem xqty (L : List Lt) (hl : L.length ≤ 1000000) (s : ByteArray) (a : Option Addr) (cap : Nat) (w : World) (h : Rw 2 lcs w a L) : Calls Try.prog 22 #[.slice a L.length cap, .string s] w (QtP L s.toList w) := by
  have HE : Hid (Rw 2 lcs w a L) := h
  have hlz : (L.length : Int) ≤ 1000000 := by omega
  clear h
  go_enter Try.func22, Try.ntmps22
  go_wp2_with fail
  go_loopw [9] (fun i wr => ∃ k : Nat, k ≤ L.length ∧ i = .int .i64 k ∧ Hid ((∀ j (hj : j < L.length), j < k → key L[j] ≠ s.toList) ∧ Below w.heap.size w wr))
    (fun i _ => L.length - (intOf i).toNat)
  case atStart => exact ⟨0, Nat.zero_le _, rfl, fun j _ hj => by omega, Below.refl _ _⟩
  case round =>
    obtain ⟨k, hk, rfl, HR⟩ := hrel
    by_cases hkn : k < L.length
    · have hkz : (k : Int) < (L.length : Int) := by omega
      obtain ⟨blk, off, rfl, hbl, hcs⟩ := HE.out (by omega)
      obtain ⟨c0, c1⟩ := Rw.at2 hcs HR.out.2 hbl hkn
      have HB1 : Hid (Below w.heap.size w (wr.alloc (.cells (lcs L[k]).toArray 43))) := HR.out.2.alloc HR.out.2.size _
      by_cases he : key L[k] = s.toList
      · have HQ : Hid (qty L s.toList = L[k].n) := qty_first hkn (fun j hj => HR.out.1 j (by omega) hj) he
        have hez : (L[k].i.toList == s.toList) = true := by rw [beq_iff_eq]; exact he
        clear hcs HR HE he
        generalize L[k] = x at *
        obtain ⟨xi, xn⟩ := x
        simp only [lcs] at *
        go_wp2_with fail
        go_ret
        refine ⟨?_, HB1.out⟩
        rw [HQ.out]
        rfl
      · have HF : Hid (∀ j (hj : j < L.length), j < k + 1 → key L[j] ≠ s.toList) := fun j hj hjk => by
          by_cases e : j = k
          · subst e; exact he
          · exact HR.out.1 j hj (by omega)
        have hez : (L[k].i.toList == s.toList) = false := by rw [beq_eq_false_iff_ne]; exact he
        clear hcs HR HE he
        generalize L[k] = x at *
        obtain ⟨xi, xn⟩ := x
        simp only [lcs] at *
        go_wp2_with fail
        go_roundw
        case rel => exact ⟨k + 1, by omega, by simp, HF.out, HB1.out⟩
        case measure => simp [intOf]; omega
    · have hkz : ¬ (k : Int) < (L.length : Int) := by omega
      have HQ : Hid (qty L s.toList = 0) := qty_no fun x hx => by
        obtain ⟨j, hj, rfl⟩ := List.getElem_of_mem hx
        exact HR.out.1 j hj (by omega)
      have HB1 : Hid (Below w.heap.size w wr) := HR.out.2
      clear HR
      go_wp2_with fail
      go_ret
      refine ⟨?_, HB1.out⟩
      rw [HQ.out]
      rfl
set_option maxHeartbeats 16000000 in
theorem rqty (L : List Lt) (hl : L.length ≤ 1000000) (s : ByteArray) (a : Option Addr) (cap : Nat) (w : World) (h : Rw 2 lcs w a L) : Calls Try.prog 23 #[.slice a L.length cap, .string s] w (QtP L s.toList w) := by
  have HE : Hid (Rw 2 lcs w a L) := h
  have hlz : (L.length : Int) ≤ 1000000 := by omega
  clear h
  go_enter Try.func23, Try.ntmps23
  go_wp2_with fail
  go_loopw [5] (fun i wr => ∃ k : Nat, k ≤ L.length ∧ i = .int .i64 k ∧ Hid ((∀ j (hj : j < L.length), j < k → key L[j] ≠ s.toList) ∧ Below w.heap.size w wr))
    (fun i _ => L.length - (intOf i).toNat)
  case atStart => exact ⟨0, Nat.zero_le _, rfl, fun j _ hj => by omega, Below.refl _ _⟩
  case round =>
    obtain ⟨k, hk, rfl, HR⟩ := hrel
    by_cases hkn : k < L.length
    · have hkz : (k : Int) < (L.length : Int) := by omega
      obtain ⟨blk, off, rfl, hbl, hcs⟩ := HE.out (by omega)
      obtain ⟨c0, c1⟩ := Rw.at2 hcs HR.out.2 hbl hkn
      have HB1 : Hid (Below w.heap.size w (wr)) := HR.out.2
      by_cases he : key L[k] = s.toList
      · have HQ : Hid (qty L s.toList = L[k].n) := qty_first hkn (fun j hj => HR.out.1 j (by omega) hj) he
        have hez : (L[k].i.toList == s.toList) = true := by rw [beq_iff_eq]; exact he
        clear hcs HR HE he
        generalize L[k] = x at *
        obtain ⟨xi, xn⟩ := x
        simp only [lcs] at *
        go_wp2_with fail
        go_ret
        refine ⟨?_, HB1.out⟩
        rw [HQ.out]
        rfl
      · have HF : Hid (∀ j (hj : j < L.length), j < k + 1 → key L[j] ≠ s.toList) := fun j hj hjk => by
          by_cases e : j = k
          · subst e; exact he
          · exact HR.out.1 j hj (by omega)
        have hez : (L[k].i.toList == s.toList) = false := by rw [beq_eq_false_iff_ne]; exact he
        clear hcs HR HE he
        generalize L[k] = x at *
        obtain ⟨xi, xn⟩ := x
        simp only [lcs] at *
        go_wp2_with fail
        go_roundw
        case rel => exact ⟨k + 1, by omega, by simp, HF.out, HB1.out⟩
        case measure => simp [intOf]; omega
    · have hkz : ¬ (k : Int) < (L.length : Int) := by omega
      have HQ : Hid (qty L s.toList = 0) := qty_no fun x hx => by
        obtain ⟨j, hj, rfl⟩ := List.getElem_of_mem hx
        exact HR.out.1 j hj (by omega)
      have HB1 : Hid (Below w.heap.size w wr) := HR.out.2
      clear HR
      go_wp2_with fail
      go_ret
      refine ⟨?_, HB1.out⟩
      rw [HQ.out]
      rfl
set_option maxHeartbeats 16000000 in
theorem rlots (ts : List Lt) (hl : ts.length ≤ 1000000) (a1 : Option Addr) (cap1 : Nat) (a2 : Option Addr) (cap2 : Nat) (w : World) (h1 : Rw 2 lcs w a1 ts) (h2 : Rw 2 lcs w a2 ts) : Calls Try.prog 13 #[.slice a1 ts.length cap1, .slice a2 ts.length cap2] w (BbP true w) := by
  have H1 : Hid (Rw 2 lcs w a1 ts) := h1
  have H2 : Hid (Rw 2 lcs w a2 ts) := h2
  have hl' : (ts.length : Int) ≤ 1000000 := by omega
  clear h1 h2
  go_enter Try.func13, Try.ntmps13
  go_wp2_with fail
  go_loopw [5] (fun i wr => ∃ k : Nat, k ≤ ts.length ∧ i = .int .i64 k ∧ Hid (Below w.heap.size w wr))
    (fun i _ => ts.length - (intOf i).toNat)
  case atStart => exact ⟨0, Nat.zero_le _, rfl, Below.refl _ _⟩
  case round =>
    obtain ⟨k, hk, rfl, HR⟩ := hrel
    by_cases hkn : k < ts.length
    · have hkz : (k : Int) < (ts.length : Int) := by omega
      obtain ⟨blk, off, rfl, hbl, hcs⟩ := H1.out (by omega)
      obtain ⟨blk', off', rfl, hbl', hcs'⟩ := H2.out (by omega)
      obtain ⟨c0, c1⟩ := Rw.at2 hcs HR.out hbl hkn
      obtain ⟨d0, d1⟩ := Rw.at2 hcs' HR.out hbl' hkn
      have HB : Hid (∀ k, Below w.heap.size w (wr.drewN k)) := fun k => below_q HR.out k
      clear hcs hcs' H1 H2
      generalize ts[k] = x at *
      obtain ⟨xi, xn⟩ := x
      simp only at *
      go_upto_region 6 with fail
      go_quiet (fail)
      go_wp2_with fail
      go_roundw
      case rel => exact ⟨k + 1, by omega, by simp, HB.out _⟩
      case measure => simp [intOf]; omega
    · have hkz : ¬ (k : Int) < (ts.length : Int) := by omega
      go_wp2_with fail
      go_ret
      exact ⟨rfl, HR.out⟩
end Go.Proofs.Ytheikjjehidagaa
