/- A writer in memory; add, Uint, Int. -/
import Derived.Test.YtdmlgheajblcdaaGreatNH
import Derived.WalkKit
import Derived.ProofKit
import Derived.Handy
import Derived.WalkLawsBesides
import Derived.WalkSpells
import Derived.BigQuiet
import Derived.BigCall
import Derived.Deep.QuietTactic
import Derived.Deep.Light
import Derived.Deep.OwnRows
import Derived.Laws.AppendOwnNone
import Derived.Laws.Strings3
import Derived.Laws.RangeAny
import Derived.Deep.RegionWith
import Derived.Lib.BitFns
import Derived.Lib.Walk
import Derived.Lib.Strings
import Derived.Lib.OthersKept
import Derived.Deep.CutBlock
import Derived.Deep.DeepCutAuto
import Derived.Deep.LoopGhost
import Derived.Deep.RegionHeld3
import Derived.Lib.SmallJoins
import Derived.Maps.AppendAt
import Derived.Laws.IdiomStrings
import Derived.Lib.AppendZeros
import Derived.Deep.WholeRow
import Derived.Laws.BitsAllLaws
import Derived.Lib.ConvBytes
import Derived.Deep.RegionLaw
namespace Go.Proofs.YtdmlgheajblcdaaGreat
open Go.RowKit
set_option linter.unusedVariables false
set_option linter.unusedSimpArgs false
/-- bytes that a slice has -/
def Src (w : World) (u : Value) (m : List UInt8) : Prop := (u = .slice none 0 0 ∧ m = []) ∨ ∃ a cap, u = .slice (some a) m.length cap ∧ ∀ j x, (Lib.byteCells m)[j]? = some x → w.cell? (a.add j) = some x
theorem one_bytes {l : List UInt8} : ∀ u ∈ Lib.byteCells l, u.oneCell' = true := by
  intro u hu
  simp only [Lib.byteCells, List.mem_map] at hu
  obtain ⟨c, _, rfl⟩ := hu
  rfl
theorem app_src {B : Nat} {w : World} {v u : Value} {l m : List UInt8} (h : w.ownsRow B 5 1 v l.length (Lib.byteCells l)) (hu : Src w u m) (hB : B ≤ w.heap.size) (hl : l.length + m.length ≤ 1099511627776) :
    ∃ v' w', (Builtin.append_ #[113, 113] 113 #[v, u]).run Tryz.prog w = .ok v' w' ∧ w'.ownsRow B 5 1 v' (l ++ m).length (Lib.byteCells (l ++ m)) ∧ w.grownBy w' v.ownBlock := by
  obtain ⟨i0, hi, hz0, hz1, hz2⟩ := info_parts Tryz.info5
  rcases hu with ⟨rfl, rfl⟩ | ⟨a, cap, rfl, hc⟩
  · exact ⟨v, w, run_append_owned_none (P := Tryz.prog) (w := w) B 113 113 5 i0 1 Tryz.underlying113 hi v _ _ h, by rw [List.append_nil]; exact h, ⟨rfl, rfl, rfl, Nat.le_refl _, fun _ _ _ => rfl⟩⟩
  · obtain ⟨v', w', hr, ho, hgr, _, hat⟩ := run_append_own_at (P := Tryz.prog) (w := w) B 113 113 5 i0 (.int .u8 0) 1 1 Tryz.underlying113 hi hz0 hz1 hz2 rfl (by decide) v _ _ h a m.length cap (Lib.byteCells m) (by rw [Lib.byteCells_length, Nat.mul_one]) hc (one_bytes (l := m)) (by unfold maxLen; omega) (by omega) hB
    exact ⟨v', w', hr, by rw [Lib.byteCells_append, List.length_append]; exact ho, hgr⟩
/-- a writer in memory -/
structure Wm (B : Nat) (w : World) (p : Nat) (v : Value) (l : List UInt8) : Prop where
  base : B ≤ p
  blk : w.heap[p]? = some (.cells #[v] 117 (0, 0))
  own : w.ownsRow B 5 1 v l.length (Lib.byteCells l)
theorem own_keep {w w' : World} {B e size n : Nat} {v : Value} {xs : List Value} (h : w.ownsRow B e size v n xs) (hb : Below w.heap.size w w') : w'.ownsRow B e size v n xs := by
  refine ⟨h.1, ?_⟩
  rcases h.2 with h2 | ⟨g, cap, cur, hv, hB, hg, hr⟩
  · exact .inl h2
  · exact .inr ⟨g, cap, cur, hv, hB, by rw [hb.block g (Array.getElem?_eq_some_iff.1 hg).1]; exact hg, hr⟩
theorem own_ne {B p T e : Nat} {w : World} {cs : Array Value} {fz : Nat × Nat} {v : Value} {n : Nat} {xs : List Value} (h : w.ownsRow B e 1 v n xs) (hp : w.heap[p]? = some (.cells cs T fz)) (hT : T ≠ e) : v.ownBlock ≠ some p := by
  intro q
  rcases h.2 with ⟨rfl, _⟩ | ⟨g, cap, cur, rfl, _, hg, _⟩
  · cases q
  · obtain rfl : g = p := Option.some.inj q
    rw [hp] at hg
    injection hg with hg
    injection hg with _ e2 _
    exact hT e2
section
variable {B p : Nat} {w w' : World} {v : Value} {l m : List UInt8}
theorem Wm.lt (h : Wm B w p v l) : p < w.heap.size := (Array.getElem?_eq_some_iff.1 h.blk).1
theorem Wm.bw (h : Wm B w p v l) : B ≤ w.heap.size := Nat.le_of_lt (Nat.lt_of_le_of_lt h.base h.lt)
theorem Wm.cell (h : Wm B w p v l) : w.cell? ⟨p, 0, none⟩ = some v := cell_of_row w p 0 _ 117 (0, 0) h.blk
theorem Wm.froz (h : Wm B w p v l) : w.frozen? ⟨p, 0, none⟩ = false := by
  have := h.blk
  simp [World.frozen?, this]
theorem Wm.keep (h : Wm B w p v l) (hb : Below w.heap.size w w') : Wm B w' p v l := ⟨h.base, (hb.block p h.lt).trans h.blk, own_keep h.own hb⟩
theorem Wm.alloc (h : Wm B w p v l) (o : Obj) : Wm B (w.alloc o) p v l := h.keep (below_new w o)
theorem Wm.drewN (h : Wm B w p v l) (n : Nat) : Wm B (w.drewN n) p v l := ⟨h.base, h.blk, h.own⟩
theorem own_slice {n : Nat} {e : Nat} {xs : List Value} (h : w.ownsRow B e 1 v n xs) : ∃ a cap, v = .slice a n cap := by
  rcases h.2 with ⟨rfl, h0⟩ | ⟨g, cap, cur, rfl, _⟩
  · exact ⟨none, 0, by rw [h0]⟩
  · exact ⟨_, _, rfl⟩
theorem own_set {e n : Nat} {xs : List Value} {cs : Array Value} (h : w.ownsRow B e 1 v n xs) (hp : w.heap[p]? = some (.cells cs 117 (0, 0))) (hT : 117 ≠ e) (u : Value) : (w.setCell ⟨p, 0, none⟩ u).ownsRow B e 1 v n xs := by
  refine ⟨h.1, ?_⟩
  have hne := own_ne h hp hT
  rcases h.2 with h2 | ⟨g, cap, cur, hv, hB, hg, hr⟩
  · exact .inl h2
  · exact .inr ⟨g, cap, cur, hv, hB, (Below.heap_setCell w _ u g (by intro e; exact hne (by rw [hv, e]; rfl))).trans hg, hr⟩
/-- all blocks stay that are neither bytes nor the writer -/
def Kt (p : Nat) (w w' : World) : Prop := ∀ (g : Nat) (cs : Array Value) (T : Nat), w.heap[g]? = some (.cells cs T (0, 0)) → T ≠ 5 → g ≠ p → w'.heap[g]? = some (.cells cs T (0, 0))
def Bw (B p : Nat) (w w' : World) : Prop := Below B w w' ∧ Kt p w w'
theorem Bw.refl (B p : Nat) (w : World) : Bw B p w w := ⟨Below.refl B w, fun _ _ _ h _ _ => h⟩
theorem Bw.trans {B p : Nat} {w w' w'' : World} (h : Bw B p w w') (k : Bw B p w' w'') : Bw B p w w'' := ⟨h.1.trans k.1, fun g cs T hg hT hp => k.2 g cs T (h.2 g cs T hg hT hp) hT hp⟩
theorem Bw.of {B p : Nat} {w w' : World} (h : Below w.heap.size w w') (hB : B ≤ w.heap.size) : Bw B p w w' := ⟨h.mono hB, fun g cs T hg _ _ => (h.block g (Array.getElem?_eq_some_iff.1 hg).1).trans hg⟩
theorem Bw.alloc {B p : Nat} {w w' : World} (h : Bw B p w w') (hB : B ≤ w'.heap.size) (o : Obj) : Bw B p w (w'.alloc o) := h.trans (Bw.of (below_new w' o) hB)
/-- bytes are put behind -/
theorem Wm.grow (h : Wm B w p v l) {u : Value} (hu : Src w u m) (hl : l.length + m.length ≤ 1099511627776) :
    ∃ (x : Option Addr) (n c : Nat) (w2 : World), (Builtin.append_ #[113, 113] 113 #[v, u]).run Tryz.prog w = .ok (.slice x n c) w2 ∧ w2.cell? ⟨p, 0, none⟩ = some v ∧ w2.frozen? ⟨p, 0, none⟩ = false ∧
      Wm B (w2.setCell ⟨p, 0, none⟩ (.slice x n c)) p (.slice x n c) (l ++ m) ∧ Bw B p w (w2.setCell ⟨p, 0, none⟩ (.slice x n c)) := by
  obtain ⟨v', w2, hr, ho, hg⟩ := app_src h.own hu h.bw hl
  obtain ⟨x, c, rfl⟩ := own_slice ho
  have hp : w2.heap[p]? = some (.cells #[v] 117 (0, 0)) := (hg.block p h.lt (fun e => own_ne h.own h.blk (by decide) e.symm)).trans h.blk
  refine ⟨x, _, c, w2, hr, cell_of_row w2 p 0 _ 117 (0, 0) hp, by simp [World.frozen?, hp], ⟨h.base, ?_, own_set ho hp (by decide) _⟩, ?_⟩
  · rw [set_blk hp]
    rfl
  · refine ⟨((Below.refl B w).grown hg h.bw fun k hk => (h.own.lt k hk).1).setCell h.base _, fun g cs T hgb hT hgp => ?_⟩
    have h1 : w2.heap[g]? = some (.cells cs T (0, 0)) := (hg.block g (Array.getElem?_eq_some_iff.1 hgb).1 (fun e => own_ne h.own hgb hT e.symm)).trans hgb
    exact (Below.heap_setCell w2 _ _ g hgp).trans h1
end
/-- what a writer's call hands back -/
def WP (B p : Nat) (l : List UInt8) (w : World) (e : Ending) (w' : World) : Prop := e = .returned (.tuple #[]) ∧ ∃ v, Hid (Wm B w' p v l) ∧ Hid (Bw B p w w')
set_option maxHeartbeats 4000000 in
theorem xadd (B p : Nat) (v u : Value) (l m : List UInt8) (w : World) (h : Wm B w p v l) (hu : Src w u m) (hl : l.length + m.length ≤ 1099511627776) : Calls Tryz.prog 106 #[.pointer (some ⟨p, 0, none⟩), u] w (WP B p (l ++ m) w) := by
  obtain ⟨xv, cv, rfl⟩ := own_slice h.own
  have c0 : w.cell? ⟨p, 0, none⟩ = some (.slice xv l.length cv) := h.cell
  obtain ⟨x, n, c, w2, hr, hc2, hf2, hw, hb⟩ := h.grow hu hl
  have HR : Hid _ := hr
  have HW : Hid (Wm B (w2.setCell ⟨p, 0, none⟩ (.slice x n c)) p (.slice x n c) (l ++ m)) := hw
  have HB : Hid (Bw B p w (w2.setCell ⟨p, 0, none⟩ (.slice x n c))) := hb
  clear hr hw hb h hu
  go_enter Tryz.func106, Tryz.ntmps106
  go_wp2_with (at_builtin; refine Lib.wpList_append_run _ rfl _ _ 113 113 rfl _ _ rfl rfl _ w2 HR.out ?_)
  go_returns
  exact ⟨rfl, _, HW, HB⟩
theorem hiL_more (k : Nat) : ∀ n, n < 128 ^ k → hiL (k + 1) n = hiL k n := by
  induction k with
  | zero => intro n h; have : n = 0 := by simp at h; exact h
            rw [this, hiL_zero, hiL_zero]
  | succ k ih =>
    intro n h
    by_cases hn : n = 0
    · rw [hn, hiL_zero, hiL_zero]
    · rw [hiL_at hn, hiL_at hn, ih (n / 128) (by rw [Nat.pow_succ] at h; exact Nat.div_lt_of_lt_mul (by omega))]
theorem src_one (w : World) (c : Nat) (hc : c < 256) (cap : Nat) : Src (w.alloc (.cells #[.int .u8 (c : Int)] 5)) (.slice (some ⟨w.heap.size, 0, none⟩) 1 cap) [UInt8.ofNat c] := by
  refine .inr ⟨⟨w.heap.size, 0, none⟩, cap, rfl, fun j x hx => ?_⟩
  have e : Lib.byteCells [UInt8.ofNat c] = [.int .u8 (c : Int)] := by
    simp [Lib.byteCells, UInt8.toNat_ofNat', Nat.mod_eq_of_lt hc]
  rw [e] at hx
  exact cell_one_new _ _ _ j x hx
theorem or_high (y : Nat) (hy : y < 256) : bits .or .u8 (y : Int) 128 = ((128 + y % 128 : Nat) : Int) := by
  have h := u8_or_nat y 128 hy (by omega)
  have e : ∀ z, z < 256 → z ||| 128 = 128 + z % 128 := by decide +kernel
  rw [e y hy] at h
  exact h
theorem and_low64 (n : Nat) (hn : n < 18446744073709551616) : bits .and .u64 (n : Int) 127 = ((n % 128 : Nat) : Int) := by
  have := u64_and_nat n 127 hn (by omega)
  rw [show (127 : Nat) = 2 ^ 7 - 1 from rfl, Nat.and_two_pow_sub_one_eq_mod] at this
  exact this
/-- the groups that are written, one more -/
theorem hi_step0 {n sh : Nat} (h : n / 2 ^ sh = 0) : hiL 10 (n / 2 ^ (sh + 7)) = hiL 10 (n / 2 ^ sh) := by
  rw [Nat.pow_add, ← Nat.div_div_eq_div_mul, h]
theorem hi_step1 {n sh : Nat} (hn : n < 18446744073709551616) (hs : 1 ≤ sh) (h : n / 2 ^ sh ≠ 0) : hiL 10 (n / 2 ^ sh) = hiL 10 (n / 2 ^ (sh + 7)) ++ [UInt8.ofNat (128 + n / 2 ^ sh % 128)] := by
  rw [hiL_at h, Nat.pow_add, ← Nat.div_div_eq_div_mul, show 2 ^ 7 = 128 from rfl, hiL_more 9]
  have h1 : n / 2 ^ sh / 128 ≤ n := Nat.le_trans (Nat.div_le_self _ _) (Nat.div_le_self _ _)
  have h2 : n / 2 ^ sh ≤ n / 2 ^ 1 := Nat.div_le_div_left (Nat.pow_le_pow_right (by omega) hs) (by omega)
  have h3 : n / 2 ^ 1 < 9223372036854775808 := by omega
  omega
theorem hi_start {n : Nat} (hn : n < 18446744073709551616) : hiL 10 (n / 2 ^ (63 + 7)) = [] := by
  rw [Nat.div_eq_of_lt (by omega), hiL_zero]
theorem hi_len (k : Nat) : ∀ n, (hiL k n).length ≤ k := by
  induction k with
  | zero => intro n; simp [hiL]
  | succ k ih =>
    intro n
    by_cases hn : n = 0
    · rw [hn, hiL_zero]; simp
    · rw [hiL_at hn, List.length_append]
      have := ih (n / 128)
      simp; omega
set_option maxHeartbeats 4000000 in
theorem wuint (B p : Nat) (v : Value) (l : List UInt8) (n : Nat) (hn : n < 18446744073709551616) (w : World) (h : Wm B w p v l) (hl : l.length ≤ 1000000000000) : Calls Tryz.prog 75 #[.pointer (some ⟨p, 0, none⟩), .int .u64 n] w (WP B p (l ++ uintL n) w) := by
  have HW : Hid (Wm B w p v l) := h
  clear h
  go_enter Tryz.func75, Tryz.ntmps75
  go_wp2_with fail
  go_loopw [4] (fun i wr => ∃ (sh : Nat) (v : Value), i = .int .i64 sh ∧ sh ≤ 63 ∧ (0 < sh → 7 ≤ sh) ∧ Hid (sh % 7 = 0) ∧ Hid (Wm B wr p v (l ++ hiL 10 (n / 2 ^ (sh + 7)))) ∧ Hid (Bw B p w wr)) (fun i _ => (Lib.intOf i).toNat)
  case atStart => exact ⟨63, v, rfl, by omega, by omega, by unfold Hid; omega, by unfold Hid; rw [hi_start hn, List.append_nil]; exact HW.out, Bw.refl _ _ _⟩
  case round =>
    obtain ⟨sh, v2, rfl, h63, h7, HM, HW2, HB⟩ := hrel
    by_cases hs0 : 0 < sh
    · have hz : (0 : Int) < (sh : Int) := by omega
      have h7 := h7 hs0
      have hcast : (n : Int) / 2 ^ sh = ((n / 2 ^ sh : Nat) : Int) := by rw [Int.natCast_ediv]; simp
      obtain ⟨sh2, hsh⟩ : ∃ sh2, sh = sh2 + 7 := ⟨sh - 7, by omega⟩
      have hsz : (sh : Int) - 7 = (sh2 : Int) := by omega
      by_cases h0 : n / 2 ^ sh = 0
      · have hne : ((n : Int) / 2 ^ sh != 0) = false := by rw [hcast, h0]; rfl
        have HW3 : Hid (Wm B wr p v2 (l ++ hiL 10 (n / 2 ^ (sh2 + 7)))) := by unfold Hid; rw [← hsh, ← hi_step0 h0]; exact HW2.out
        have HA : Hid ((0 < sh2 → 7 ≤ sh2) ∧ sh2 % 7 = 0 ∧ sh2 ≤ 63) := by have := HM.out; unfold Hid; omega
        clear hcast h0 HW2 hsh
        go_wp2_with fail
        exact ⟨⟨sh2, v2, rfl, HA.out.2.2, HA.out.1, HA.out.2.1, HW3.out, HB.out⟩, by simp [Lib.intOf]; omega⟩
      · have hne : ((n : Int) / 2 ^ sh != 0) = true := by rw [hcast, bne_iff_ne]; omega
        have HO : Hid (bits .or .u8 ((n : Int) / 2 ^ sh % 256) 128 = ((128 + n / 2 ^ sh % 128 : Nat) : Int)) := by
          unfold Hid
          have e : (n : Int) / 2 ^ sh % 256 = ((n / 2 ^ sh % 256 : Nat) : Int) := by rw [hcast]; omega
          rw [e, or_high _ (by omega)]
          omega
        have HS : Hid (l ++ hiL 10 (n / 2 ^ (sh + 7)) ++ [UInt8.ofNat (128 + n / 2 ^ sh % 128)] = l ++ hiL 10 (n / 2 ^ (sh2 + 7))) := by unfold Hid; rw [List.append_assoc, ← hi_step1 hn hs0 h0, hsh]
        have HA : Hid ((0 < sh2 → 7 ≤ sh2) ∧ sh2 % 7 = 0 ∧ sh2 ≤ 63) := by have := HM.out; unfold Hid; omega
        have HL : Hid ((l ++ hiL 10 (n / 2 ^ (sh + 7))).length + 1 ≤ 1099511627776) := by
          unfold Hid
          rw [List.length_append]
          have := hi_len 10 (n / 2 ^ (sh + 7))
          omega
        have HC : Hid (128 + n / 2 ^ sh % 128 < 256) := by unfold Hid; omega
        clear hcast h0 hsh
        go_wp2_with fail
        rw [HO.out]
        generalize 128 + n / 2 ^ sh % 128 = c at *
        have HW4 : Hid (Wm B (wr.alloc (.cells #[.int .u8 (c : Int)] 5)) p v2 (l ++ hiL 10 (n / 2 ^ (sh + 7)))) := HW2.out.alloc _
        have HB4 : Hid (Bw B p w (wr.alloc (.cells #[.int .u8 (c : Int)] 5))) := HB.out.alloc HW2.out.bw _
        refine (xadd B p v2 _ _ _ _ HW4.out (src_one wr c HC.out 1) HL.out).mono ?_
        rintro e w3 ⟨rfl, v3, HW5, HB5⟩
        rw [HS.out] at HW5
        have HB6 : Hid (Bw B p w w3) := HB4.out.trans HB5.out
        clear HW4 HB4 HB5 HW2 HB
        go_wp2_with fail
        exact ⟨⟨sh2, v3, rfl, HA.out.2.2, HA.out.1, HA.out.2.1, HW5.out, HB6.out⟩, by simp [Lib.intOf]; omega⟩
    · have hz : ¬ (0 : Int) < (sh : Int) := by omega
      have hsh : sh = 0 := by omega
      subst hsh
      have HA : Hid (bits .and .u64 (n : Int) 127 % 256 = ((n % 128 : Nat) : Int)) := by unfold Hid; rw [and_low64 n hn]; omega
      have HS : Hid (l ++ hiL 10 (n / 2 ^ (0 + 7)) ++ [UInt8.ofNat (n % 128)] = l ++ uintL n) := by unfold Hid uintL; rw [List.append_assoc]
      have HL : Hid ((l ++ hiL 10 (n / 2 ^ (0 + 7))).length + 1 ≤ 1099511627776) := by
        unfold Hid
        rw [List.length_append]
        have := hi_len 10 (n / 2 ^ (0 + 7))
        omega
      have HC : Hid (n % 128 < 256) := by unfold Hid; omega
      go_wp2_with fail
      rw [HA.out]
      generalize n % 128 = c at *
      have HW4 : Hid (Wm B (wr.alloc (.cells #[.int .u8 (c : Int)] 5)) p v2 (l ++ hiL 10 (n / 2 ^ (0 + 7)))) := HW2.out.alloc _
      have HB4 : Hid (Bw B p w (wr.alloc (.cells #[.int .u8 (c : Int)] 5))) := HB.out.alloc HW2.out.bw _
      refine (xadd B p v2 _ _ _ _ HW4.out (src_one wr c HC.out 1) HL.out).mono ?_
      rintro e w3 ⟨rfl, v3, HW5, HB5⟩
      rw [HS.out] at HW5
      have HB6 : Hid (Bw B p w w3) := HB4.out.trans HB5.out
      clear HW4 HB4 HB5 HW2 HB
      go_wp2_with fail
      go_returns
      exact ⟨rfl, v3, HW5, HB6⟩
end Go.Proofs.YtdmlgheajblcdaaGreat
