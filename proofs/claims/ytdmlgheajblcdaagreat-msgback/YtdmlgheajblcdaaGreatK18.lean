/- Layer 10: what is wrong with a lot, with prices, with a swap, by the program. -/
import Derived.Test.YtdmlgheajblcdaaGreatK14
import Derived.WalkKit
import Derived.ProofKit
import Derived.Handy
import Derived.WalkLawsBesides
import Derived.WalkSpells
import Derived.BigQuiet
import Derived.BigCall
import Derived.Deep.QuietTactic
import Derived.Deep.Light
import Derived.Deep.OwnRows
import Derived.Laws.AppendOwnNone
import Derived.Laws.Strings3
import Derived.Laws.RangeAny
import Derived.Deep.RegionWith
import Derived.Lib.BitFns
import Derived.Lib.Walk
import Derived.Lib.Strings
import Derived.Lib.OthersKept
import Derived.Deep.CutBlock
import Derived.Deep.DeepCutAuto
import Derived.Deep.LoopGhost
import Derived.Deep.RegionHeld3
import Derived.Lib.SmallJoins
import Derived.Maps.AppendAt
import Derived.Laws.IdiomStrings
import Derived.Lib.AppendZeros
import Derived.Deep.WholeRow
import Derived.Laws.BitsAllLaws
import Derived.Lib.ConvBytes
import Derived.Deep.RegionLaw
namespace Go.Proofs.YtdmlgheajblcdaaGreat
open Go.RowKit
set_option linter.unusedVariables false
set_option linter.unusedSimpArgs false
set_option maxRecDepth 20000
theorem xlot (l : Lt) (hs : l.i.length ≤ 9223372036854775807) (g : Nat) (hg : lotE C0 l = g) (w : World) : Calls Tryz.prog 149 #[.agg #[.string ⟨l.i.toArray⟩, .int .i64 l.q]] w (KP (.int .i64 g) w) := by
  have HB : Hid (Below w.heap.size w (w.alloc (.cells #[.string ⟨l.i.toArray⟩, .int .i64 l.q] 32))) := below_a w _
  have HC : Hid (∀ w, Calls Tryz.prog 151 #[.string ⟨l.i.toArray⟩] w (NP .i64 (C0.is l.i : Nat) w)) := fun w => xisin l.i hs _ rfl w
  unfold lotE at hg
  by_cases e1 : amt l.q = true
  · rw [if_pos e1] at hg
    subst hg
    generalize C0.is l.i = g at *
    go_enter Tryz.func149, Tryz.ntmps149
    go_wp2_with (first | (go_at_call 141; refine (xamount _ _ e1 _).mono ?_; rintro e w2 ⟨rfl, rfl⟩) | (go_at_call 151; refine (HC.out _).mono ?_; rintro e w2 ⟨rfl, rfl⟩))
    go_ret
    exact KP.mk rfl HB.out
  · have e1 : amt l.q = false := by simpa using e1
    rw [if_neg (ff e1)] at hg
    subst hg
    go_enter Tryz.func149, Tryz.ntmps149
    go_wp2_with (go_at_call 141; refine (xamount _ _ e1 _).mono ?_; rintro e w2 ⟨rfl, rfl⟩)
    go_ret
    exact KP.mk rfl HB.out
theorem lotsE_at {xs : List Lt} {k : Nat} (h : k < xs.length) : lotsE C0 (xs.drop k) = if lotE C0 xs[k] = 0 then lotsE C0 (xs.drop (k + 1)) else lotE C0 xs[k] := by
  rw [drop_at' h]; rfl
set_option maxHeartbeats 4000000 in
theorem check11 (m : Mg) (pa ia ca ba : Option Addr) (pc ic cc bc : Nat) (w : World) (hL : Lts w.heap.size w ia m.ins) (ho : m.out.i.length ≤ 9223372036854775807) (hi : ∀ y ∈ m.ins, y.i.length ≤ 9223372036854775807) (hl : m.ins.length ≤ 9223372036854775807) (g : Nat) (hg : (if mbr m.mem = true then if amt m.tr = true then if decide (m.ins.length ≤ 64) = true then lotsE C0 (m.out :: m.ins) else 1 else 1 else 1) = g) : Calls Tryz.prog 147 #[.agg #[.int .i64 m.mem, .int .i64 m.tr, .string ⟨m.out.i.toArray⟩, .int .i64 m.out.q, .slice ia m.ins.length ic]] w (KP (.int .i64 g) w) := by
  have HG : Hid ((if mbr m.mem = true then if amt m.tr = true then if decide (m.ins.length ≤ 64) = true then lotsE C0 (m.out :: m.ins) else 1 else 1 else 1) = g) := hg
  have HB : Hid (Below w.heap.size w (w.alloc (.cells #[.int .i64 m.mem, .int .i64 m.tr, .string ⟨m.out.i.toArray⟩, .int .i64 m.out.q, .slice ia m.ins.length ic] 67))) := below_a w _
  have HI : Hid (Lts w.heap.size w ia m.ins) := hL
  have HS : Hid (∀ y ∈ m.ins, y.i.length ≤ 9223372036854775807) := hi
  have HO : Hid (∀ w, Calls Tryz.prog 149 #[.agg #[.string ⟨m.out.i.toArray⟩, .int .i64 m.out.q]] w (KP (.int .i64 (lotE C0 m.out : Nat)) w)) := fun w => xlot m.out ho _ rfl w
  have HX : Hid (Bx (w.alloc (.cells #[.int .i64 m.mem, .int .i64 m.tr, .string ⟨m.out.i.toArray⟩, .int .i64 m.out.q, .slice ia m.ins.length ic] 67)) w.heap.size #[.int .i64 m.mem, .int .i64 m.tr, .string ⟨m.out.i.toArray⟩, .int .i64 m.out.q, .slice ia m.ins.length ic] 67) := Bx.new _ _ _
  clear hg hL hi ho
  by_cases e1 : mbr m.mem = true
  · by_cases e2 : amt m.tr = true
    · by_cases e3 : decide (m.ins.length ≤ 64) = true
      · have e3n : ¬ (m.ins.length : Int) > 64 := by have := of_decide_eq_true e3; omega
        have HG1 : Hid ((if lotE C0 m.out = 0 then lotsE C0 m.ins else lotE C0 m.out) = g) := by have := HG.out; rw [if_pos e1, if_pos e2, if_pos e3] at this; exact this
        clear HG
        generalize lotE C0 m.out = lo at *
        go_enter Tryz.func147, Tryz.ntmps147
        go_wp2_with (first | (go_at_call 140; refine (xmember _ _ e1 _).mono ?_; rintro e w2 ⟨rfl, rfl⟩) | (go_at_call 40; refine (xnumber _ _ e2 _).mono ?_; rintro e w2 ⟨rfl, rfl⟩))
        refine (HO.out _).mono ?_
        rintro e w2 ⟨rfl, hb2⟩
        have HB2 : Hid (Below w.heap.size w w2) := bt HB.out hb2.out
        have x4 : w2.cell? ⟨w.heap.size, 4, none⟩ = some (.slice ia m.ins.length ic) := (HX.out.keep hb2.out).cell 4
        clear hb2 HB HX HO
        by_cases e4 : lo = 0
        · have HG2 : Hid (lotsE C0 m.ins = g) := by have := HG1.out; rw [if_pos e4] at this; exact this
          have z4 : ((lo : Int) != 0) = false := by rw [e4]; rfl
          clear HG1 e4
          go_wp2_with fail
          clear x4
          go_loopw [32] (fun i wr => ∃ (k : Nat), i = .int .i64 k ∧ k ≤ m.ins.length ∧ Hid (lotsE C0 (m.ins.drop k) = g) ∧ Hid (Below w.heap.size w wr)) (fun i _ => m.ins.length - (Lib.intOf i).toNat)
          case atStart => exact ⟨0, rfl, Nat.zero_le _, HG2, HB2⟩
          case round =>
            clear HG2 HB2
            obtain ⟨k, rfl, hk, HK, HBw⟩ := hrel
            by_cases hkn : k < m.ins.length
            · have hkz : (k : Int) < (m.ins.length : Int) := by omega
              obtain ⟨b, off, rfl, hbl, hce⟩ := HI.out (by omega)
              have hc1 : wr.cell? ⟨b, off + k * 2, none⟩ = some (.string ⟨m.ins[k].i.toArray⟩) := (HBw.out.cell (by exact hbl)).trans (hce k hkn).1
              have hc2 : wr.cell? ⟨b, off + k * 2 + 1, none⟩ = some (.int .i64 m.ins[k].q) := (HBw.out.cell (by exact hbl)).trans (hce k hkn).2
              have HC : Hid (∀ w, Calls Tryz.prog 149 #[.agg #[.string ⟨m.ins[k].i.toArray⟩, .int .i64 m.ins[k].q]] w (KP (.int .i64 (lotE C0 m.ins[k] : Nat)) w)) := fun w => xlot m.ins[k] (HS.out _ (List.getElem_mem hkn)) _ rfl w
              have HK2 : Hid ((if lotE C0 m.ins[k] = 0 then lotsE C0 (m.ins.drop (k + 1)) else lotE C0 m.ins[k]) = g) := by unfold Hid; rw [← lotsE_at hkn]; exact HK.out
              have HBa : Hid (∀ o, Below w.heap.size w (wr.alloc o)) := fun o => HBw.out.alloc HBw.out.size _
              clear HK hce
              generalize lotE C0 m.ins[k] = lk at *
              generalize (⟨m.ins[k].i.toArray⟩ : ByteArray) = X at *
              generalize m.ins[k].q = q at *
              go_wp2_with fail
              refine (HC.out _).mono ?_
              rintro e w5 ⟨rfl, hb5⟩
              have HB5 : Hid (Below w.heap.size w w5) := bt (HBa.out _) hb5.out
              clear hb5
              by_cases e5 : lk = 0
              · have HK3 : Hid (lotsE C0 (m.ins.drop (k + 1)) = g) := by have := HK2.out; rw [if_pos e5] at this; exact this
                have z5 : ((lk : Int) != 0) = false := by rw [e5]; rfl
                clear HK2 e5
                go_wp2_with fail
                exact ⟨⟨k + 1, by go_num, by omega, HK3, HB5⟩, by simp [Lib.intOf]; omega⟩
              · have HK3 : Hid (lk = g) := by have := HK2.out; rw [if_neg e5] at this; exact this
                have z5 : ((lk : Int) != 0) = true := by rw [bne_iff_ne]; omega
                clear HK2 e5
                go_wp2_with fail
                go_ret
                exact KP.mk (by rw [← HK3.out]; rfl) HB5.out
            · have hkz : ¬ (k : Int) < (m.ins.length : Int) := by omega
              have HK3 : Hid (0 = g) := by have := HK.out; rw [List.drop_of_length_le (by omega)] at this; exact this
              clear HK
              go_wp2_with fail
              go_ret
              exact KP.mk (by rw [← HK3.out]; rfl) HBw.out
        · have HG2 : Hid (lo = g) := by have := HG1.out; rw [if_neg e4] at this; exact this
          have z4 : ((lo : Int) != 0) = true := by rw [bne_iff_ne]; omega
          clear HG1 e4
          go_wp2_with fail
          go_ret
          exact KP.mk (by rw [← HG2.out]; rfl) HB2.out
      · have e3 : decide (m.ins.length ≤ 64) = false := by simpa using e3
        have e3n : (m.ins.length : Int) > 64 := by have := of_decide_eq_false e3; omega
        go_enter Tryz.func147, Tryz.ntmps147
        have HG2 : Hid (1 = g) := by have := HG.out; rw [if_pos e1, if_pos e2, if_neg (ff e3)] at this; exact this
        clear HG
        go_wp2_with (first | (go_at_call 140; refine (xmember _ _ e1 _).mono ?_; rintro e w2 ⟨rfl, rfl⟩) | (go_at_call 40; refine (xnumber _ _ e2 _).mono ?_; rintro e w2 ⟨rfl, rfl⟩))
        go_ret
        exact KP.mk (by rw [← HG2.out]; rfl) HB.out
    · have e2 : amt m.tr = false := by simpa using e2
      go_enter Tryz.func147, Tryz.ntmps147
      have HG2 : Hid (1 = g) := by have := HG.out; rw [if_pos e1, if_neg (ff e2)] at this; exact this
      clear HG
      go_wp2_with (first | (go_at_call 140; refine (xmember _ _ e1 _).mono ?_; rintro e w2 ⟨rfl, rfl⟩) | (go_at_call 40; refine (xnumber _ _ e2 _).mono ?_; rintro e w2 ⟨rfl, rfl⟩))
      go_ret
      exact KP.mk (by rw [← HG2.out]; rfl) HB.out
  · have e1 : mbr m.mem = false := by simpa using e1
    go_enter Tryz.func147, Tryz.ntmps147
    have HG2 : Hid (1 = g) := by have := HG.out; rw [if_neg (ff e1)] at this; exact this
    clear HG
    go_wp2_with (first | (go_at_call 140; refine (xmember _ _ e1 _).mono ?_; rintro e w2 ⟨rfl, rfl⟩) | (go_at_call 40; refine (xnumber _ _ e2 _).mono ?_; rintro e w2 ⟨rfl, rfl⟩))
    go_ret
    exact KP.mk (by rw [← HG2.out]; rfl) HB.out
end Go.Proofs.YtdmlgheajblcdaaGreat

/- Layer 10: what is wrong with prices, by the program and by the reference. -/
namespace Go.Proofs.YtdmlgheajblcdaaGreat
open Go.RowKit
set_option linter.unusedVariables false
set_option linter.unusedSimpArgs false
set_option maxRecDepth 20000
theorem xwithinQ (n a b : Int) (g : Bool) (h : inn n a b = g) (w : World) : Calls Tryz.prog 39 #[.int .i64 n, .int .i64 a, .int .i64 b] w fun e w' => e = .returned (.bool g) ∧ w' = w := (xwithin n a b g h w).mono fun _ _ ⟨he, hw⟩ => ⟨he, hw.symm⟩
def ahI (xs : List Lt) (k : Nat) : Option (List UInt8) := (ah xs k).map Lt.i
theorem prsE_at {xs : List Lt} {k : Nat} (h : k < xs.length) : prsE C0 (ahI xs k) (xs.drop k) = if C0.is xs[k].i ≠ 0 then C0.is xs[k].i else if !(inn xs[k].q 1 4294967296 && prGo C0 (ahI xs k) xs[k].i) then 31 else prsE C0 (ahI xs (k + 1)) (xs.drop (k + 1)) := by
  rw [drop_at' h]
  have e : ahI xs (k + 1) = some xs[k].i := by
    show (xs[k]?).map Lt.i = _
    rw [List.getElem?_eq_getElem h]; rfl
  rw [e]
  rfl
theorem prE_in {xs : List Lt} (h : inn (xs.length : Int) 1 64 = true) : prE C0 xs = prsE C0 (ahI xs 0) (xs.drop 0) := by
  unfold inn at h
  rw [Bool.and_eq_true, decide_eq_true_iff, decide_eq_true_iff] at h
  unfold prE
  rw [if_neg (by omega)]
  rfl
theorem prE_out {xs : List Lt} (h : inn (xs.length : Int) 1 64 = false) : prE C0 xs = 2 := by
  unfold inn at h
  rw [Bool.and_eq_false_iff, decide_eq_false_iff_not, decide_eq_false_iff_not] at h
  unfold prE
  rw [if_pos (by omega)]
theorem le_of (a b : List UInt8) : C0.le a b = (Op.bytesLess (⟨a.toArray⟩ : ByteArray).toList (⟨b.toArray⟩ : ByteArray).toList || ((⟨a.toArray⟩ : ByteArray).toList == (⟨b.toArray⟩ : ByteArray).toList)) := by
  rw [toL, toL]; rfl
set_option maxHeartbeats 8000000 in
theorem check4 (m : Mg) (pa ia ca ba : Option Addr) (pc ic cc bc : Nat) (w : World) (hL : Lts w.heap.size w pa m.ps) (hi : ∀ y ∈ m.ps, y.i.length ≤ 9223372036854775807) (hl : m.ps.length ≤ 9223372036854775807) (g : Nat) (hg : prE C0 m.ps = g) : Calls Tryz.prog 183 #[.agg #[.slice pa m.ps.length pc]] w (KP (.int .i64 g) w) := by
  have HB : Hid (Below w.heap.size w (w.alloc (.cells #[.slice pa m.ps.length pc] 82))) := below_a w _
  have HX : Hid ((w.alloc (.cells #[.slice pa m.ps.length pc] 82)).cell? ⟨w.heap.size, 0, none⟩ = some (.slice pa m.ps.length pc)) := (Bx.new w _ _).cell 0
  have HI : Hid (Lts w.heap.size w pa m.ps) := hL
  have HS : Hid (∀ y ∈ m.ps, y.i.length ≤ 9223372036854775807) := hi
  clear hL hi
  by_cases e1 : inn (m.ps.length : Int) 1 64 = true
  · have HG : Hid (prsE C0 (ahI m.ps 0) (m.ps.drop 0) = g) := by unfold Hid; rw [← prE_in e1]; exact hg
    clear hg
    go_enter Tryz.func183, Tryz.ntmps183
    go_wp2_with (go_at_call 39; refine (xwithin _ _ _ _ e1 _).mono ?_; rintro e w2 ⟨rfl, rfl⟩)
    generalize (w.alloc (.cells #[.slice pa m.ps.length pc] 82)) = w1 at *
    go_loopw [14] (fun i wr => ∃ (k : Nat), i = .int .i64 k ∧ k ≤ m.ps.length ∧ Hid (prsE C0 (ahI m.ps k) (m.ps.drop k) = g) ∧ Hid (Below w.heap.size w wr) ∧ Hid (wr.cell? ⟨w.heap.size, 0, none⟩ = some (.slice pa m.ps.length pc) ∧ w.heap.size < wr.heap.size)) (fun i _ => m.ps.length - (Lib.intOf i).toNat)
    case atStart => exact ⟨0, rfl, Nat.zero_le _, HG, HB, HX.out, World.block_lt_of_cell? w1 _ HX.out⟩
    case round =>
      clear HG HB HX
      obtain ⟨k, rfl, hk, HK, HBw, HXw⟩ := hrel
      by_cases hkn : k < m.ps.length
      · have hkz : (k : Int) < (m.ps.length : Int) := by omega
        obtain ⟨b, off, rfl, hbl, hce⟩ := HI.out (by omega)
        have hc1 : wr.cell? ⟨b, off + k * 2, none⟩ = some (.string ⟨m.ps[k].i.toArray⟩) := (HBw.out.cell (by exact hbl)).trans (hce k hkn).1
        have hc2 : wr.cell? ⟨b, off + k * 2 + 1, none⟩ = some (.int .i64 m.ps[k].q) := (HBw.out.cell (by exact hbl)).trans (hce k hkn).2
        have HC : Hid (∀ w, Calls Tryz.prog 151 #[.string ⟨m.ps[k].i.toArray⟩] w (NP .i64 (C0.is m.ps[k].i : Nat) w)) := fun w => xisin m.ps[k].i (HS.out _ (List.getElem_mem hkn)) _ rfl w
        have HK2 : Hid ((if C0.is m.ps[k].i ≠ 0 then C0.is m.ps[k].i else if !(inn m.ps[k].q 1 4294967296 && prGo C0 (ahI m.ps k) m.ps[k].i) then 31 else prsE C0 (ahI m.ps (k + 1)) (m.ps.drop (k + 1))) = g) := by unfold Hid; rw [← prsE_at hkn]; exact HK.out
        have HA : Hid (∀ o, Below w.heap.size w (wr.alloc o) ∧ (wr.alloc o).cell? ⟨w.heap.size, 0, none⟩ = some (.slice (some ⟨b, off, none⟩) m.ps.length pc) ∧ w.heap.size < (wr.alloc o).heap.size) := fun o => by
          have h1 := (below_a wr o).cell (p := ⟨w.heap.size, 0, none⟩) HXw.out.2
          exact ⟨HBw.out.alloc HBw.out.size _, h1.trans HXw.out.1, Nat.lt_of_lt_of_le HXw.out.2 (below_a wr o).size⟩
        have HD : Hid (∀ o n, Below w.heap.size w ((wr.alloc o).drewN n) ∧ ((wr.alloc o).drewN n).cell? ⟨w.heap.size, 0, none⟩ = some (.slice (some ⟨b, off, none⟩) m.ps.length pc) ∧ w.heap.size < ((wr.alloc o).drewN n).heap.size) := fun o n => ⟨bdrw (HA.out o).1 n, (HA.out o).2⟩
        clear HK
        by_cases e2 : C0.is m.ps[k].i = 0
        · have HK3 : Hid ((if !(inn m.ps[k].q 1 4294967296 && prGo C0 (ahI m.ps k) m.ps[k].i) then 31 else prsE C0 (ahI m.ps (k + 1)) (m.ps.drop (k + 1))) = g) := by have := HK2.out; rw [if_neg (by simpa using e2)] at this; exact this
          clear HK2
          rw [e2] at HC
          clear e2
          by_cases e3 : inn m.ps[k].q 1 4294967296 = true
          · cases k with
            | zero =>
              have HK4 : Hid (prsE C0 (ahI m.ps 1) (m.ps.drop 1) = g) := by have := HK3.out; rw [e3] at this; exact this
              have hd1 : wr.cell? ⟨b, off, none⟩ = some (.string ⟨m.ps[0].i.toArray⟩) := by have := hc1; simpa using this
              have hd2 : wr.cell? ⟨b, off + 1, none⟩ = some (.int .i64 m.ps[0].q) := by have := hc2; simpa using this
              clear HK3 hce
              generalize (⟨m.ps[0].i.toArray⟩ : ByteArray) = X at *
              generalize m.ps[0].q = q at *
              go_wp2_with (go_at_call 151; refine (HC.out _).mono ?_; rintro e w2 ⟨rfl, rfl⟩)
              go_quiet ((go_at_call 39; refine Calls.quiet_of_same (xwithinQ _ _ _ _ e3 _)))
              go_wp2_with fail
              exact ⟨⟨1, by go_num, by omega, HK4, (HD.out _ _).1, (HD.out _ _).2⟩, by simp [Lib.intOf]; omega⟩
            | succ j =>
              have hcp : ∀ o, (wr.alloc o).cell? ⟨b, off + j * 2, none⟩ = some (.string ⟨m.ps[j].i.toArray⟩) := fun o => ((HA.out o).1.cell (by exact hbl)).trans (hce j (by omega)).1
              have hp : ahI m.ps (j + 1) = some m.ps[j].i := by show (m.ps[j]?).map Lt.i = _; rw [List.getElem?_eq_getElem]; rfl
              have HK4 : Hid ((if !(!C0.le m.ps[j + 1].i m.ps[j].i) then 31 else prsE C0 (ahI m.ps (j + 1 + 1)) (m.ps.drop (j + 1 + 1))) = g) := by have := HK3.out; rw [e3, hp] at this; exact this
              rw [le_of] at HK4
              have hcx := fun o => (HA.out o).2.1
              clear HK3 hce hp
              generalize (⟨m.ps[j + 1].i.toArray⟩ : ByteArray) = X at *
              generalize (⟨m.ps[j].i.toArray⟩ : ByteArray) = Y at *
              generalize m.ps[j + 1].q = q at *
              generalize hb1 : Op.bytesLess X.toList Y.toList = b1 at *
              generalize hb2 : (X.toList == Y.toList) = b2 at *
              cases b1 with
              | true =>
                have HK5 : Hid (31 = g) := HK4.out
                clear HK4
                go_wp2_with (go_at_call 151; refine (HC.out _).mono ?_; rintro e w2 ⟨rfl, rfl⟩)
                go_quiet ((go_at_call 39; refine Calls.quiet_of_same (xwithinQ _ _ _ _ e3 _)))
                go_wp2_with fail
                go_ret
                exact KP.mk (by rw [← HK5.out]; rfl) (HD.out _ _).1
              | false =>
                cases b2 with
                | true =>
                  have HK5 : Hid (31 = g) := HK4.out
                  clear HK4
                  go_wp2_with (go_at_call 151; refine (HC.out _).mono ?_; rintro e w2 ⟨rfl, rfl⟩)
                  go_quiet ((go_at_call 39; refine Calls.quiet_of_same (xwithinQ _ _ _ _ e3 _)))
                  go_wp2_with fail
                  go_ret
                  exact KP.mk (by rw [← HK5.out]; rfl) (HD.out _ _).1
                | false =>
                  have HK5 : Hid (prsE C0 (ahI m.ps (j + 1 + 1)) (m.ps.drop (j + 1 + 1)) = g) := HK4.out
                  clear HK4
                  go_wp2_with (go_at_call 151; refine (HC.out _).mono ?_; rintro e w2 ⟨rfl, rfl⟩)
                  go_quiet ((go_at_call 39; refine Calls.quiet_of_same (xwithinQ _ _ _ _ e3 _)))
                  go_wp2_with fail
                  exact ⟨⟨j + 1 + 1, by go_num, by omega, HK5, (HD.out _ _).1, (HD.out _ _).2⟩, by simp [Lib.intOf]; omega⟩
          · have e3 : inn m.ps[k].q 1 4294967296 = false := by simpa using e3
            have HK4 : Hid (31 = g) := by have := HK3.out; rw [e3] at this; exact this
            clear HK3 hce
            generalize (⟨m.ps[k].i.toArray⟩ : ByteArray) = X at *
            generalize m.ps[k].q = q at *
            go_wp2_with (go_at_call 151; refine (HC.out _).mono ?_; rintro e w2 ⟨rfl, rfl⟩)
            go_quiet ((go_at_call 39; refine Calls.quiet_of_same (xwithinQ _ _ _ _ e3 _)))
            go_wp2_with fail
            go_ret
            exact KP.mk (by rw [← HK4.out]; rfl) (HD.out _ _).1
        · have HK3 : Hid (C0.is m.ps[k].i = g) := by have := HK2.out; rw [if_pos e2] at this; exact this
          have z2 : ((C0.is m.ps[k].i : Int) != 0) = true := by rw [bne_iff_ne]; omega
          clear HK2 hce e2
          generalize C0.is m.ps[k].i = ce at *
          generalize (⟨m.ps[k].i.toArray⟩ : ByteArray) = X at *
          generalize m.ps[k].q = q at *
          go_wp2_with (go_at_call 151; refine (HC.out _).mono ?_; rintro e w2 ⟨rfl, rfl⟩)
          go_ret
          exact KP.mk (by rw [← HK3.out]; rfl) (HA.out _).1
      · have hkz : ¬ (k : Int) < (m.ps.length : Int) := by omega
        have HK3 : Hid (0 = g) := by have := HK.out; rw [List.drop_of_length_le (by omega)] at this; exact this
        clear HK
        go_wp2_with fail
        go_ret
        exact KP.mk (by rw [← HK3.out]; rfl) HBw.out
  · have e1 : inn (m.ps.length : Int) 1 64 = false := by simpa using e1
    have HG2 : Hid (2 = g) := by unfold Hid; rw [← hg, prE_out e1]
    clear hg
    go_enter Tryz.func183, Tryz.ntmps183
    go_wp2_with (go_at_call 39; refine (xwithin _ _ _ _ e1 _).mono ?_; rintro e w2 ⟨rfl, rfl⟩)
    go_ret
    exact KP.mk (by rw [← HG2.out]; rfl) HB.out
end Go.Proofs.YtdmlgheajblcdaaGreat
