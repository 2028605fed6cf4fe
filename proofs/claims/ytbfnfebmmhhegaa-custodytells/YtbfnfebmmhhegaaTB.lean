/- layer 12: law Tells -/
import Derived.Test.YtbfnfebmmhhegaaTA
import Derived.Test.YtbfnfebmmhhegaaCV
import Derived.Test.YtbfnfebmmhhegaaAG
import Derived.WalkKit
import Derived.ProofKit
import Derived.Handy
import Derived.WalkLawsBesides
import Derived.WalkSpells
import Derived.BigQuiet
import Derived.BigCall
import Derived.Deep.QuietTactic
import Derived.Deep.Light
import Derived.Deep.OwnRows
import Derived.Laws.AppendOwnNone
import Derived.Laws.Strings3
import Derived.Laws.RangeAny
import Derived.Deep.RegionWith
import Derived.Lib.BitFns
import Derived.Lib.Walk
import Derived.Lib.Strings
import Derived.Lib.OthersKept
import Derived.Deep.CutBlock
import Derived.Deep.DeepCutAuto
import Derived.Deep.LoopGhost
import Derived.Deep.RegionHeld3
import Derived.Lib.SmallJoins
import Derived.Maps.AppendAt
import Derived.Laws.IdiomStrings
import Derived.Lib.AppendZeros
import Derived.Deep.WholeRow
import Derived.Laws.BitsAllLaws
import Derived.Lib.ConvBytes
import Derived.Deep.RegionLaw
import Derived.Maps.OwnSet
import Derived.Maps.OwnOps
import Derived.Maps.RangeWalk
import Derived.Maps.Ext
import Derived.DeepKeys4
import Derived.Laws.StructEq
import Derived.Shelf.SlSortCmp.NoneTotal
import Derived.Deep.MidRow
import Derived.Laws.MakeOwn
import Derived.Sort.OwnSorted
import Derived.Lib.SlicesCompact
import Derived.Lib.RowBridge
namespace Go.Proofs.Ytbfnfebmmhhegaa
open Go.RowKit
set_option linter.unusedVariables false
set_option linter.unusedSimpArgs false
set_option maxRecDepth 20000
theorem i64_wrap (x : Int) : IntKind.i64.wrap x = wrap64 x := by unfold wrap64; exact IntKind.wrap_i64 _
theorem eql42 (a b c d : Int) (w : World) : (binOp .eql 42 (.agg #[.int .i64 a, .int .i64 b, .int .i64 c, .int .i64 d]) (.agg #[.int .i64 a, .int .i64 b, .int .i64 c, .int .i64 d])).run Try.prog w = .ok (.bool true) w := by
  go_simp
theorem load42p (W : World) (b : Nat) (v0 v1 v2 v3 : Value) (c0 : W.cell? ⟨b, 0, none⟩ = some v0) (c1 : W.cell? ⟨b, 1, none⟩ = some v1) (c2 : W.cell? ⟨b, 2, none⟩ = some v2) (c3 : W.cell? ⟨b, 3, none⟩ = some v3) : (Instr.loadAt 42 (.pointer (some ⟨b, 0, none⟩))).run Try.prog W = .ok (.agg #[v0, v1, v2, v3]) W := by
  go_simp
theorem lots_rw {ys : List Lot} {w w' : World} {e : Ending} (h : LoP ys w e w') : ∃ a cap, e = .returned (.slice a ys.length cap) ∧ Hid (Lts w' a ys ∧ Below w.heap.size w w') := by
  obtain ⟨v, rfl, ho, hb⟩ := h
  obtain ⟨a, cap, rfl, _, ht⟩ := own_rw lotc_len ho rfl
  exact ⟨a, cap, rfl, ht, hb⟩
/-- an array beside books and balances -/
theorem ds_arr {w0 W : World} {c q m lp g : Nat} {L : List Num.Bal} {al : Option Addr} {cl : Nat} {v0 v1 v2 v3 : Int} (h : Ds w0 W c q m lp L al cl) (hX : Bx W g #[.int .i64 v0, .int .i64 v1, .int .i64 v2, .int .i64 v3] 37) (i : Nat) (G : Int) (hg0 : w0.heap.size ≤ g) : Ds w0 (W.setCell ⟨g, i, none⟩ (.int .i64 G)) c q m lp L al cl := by
  have gr := grown_set W g i (.int .i64 G)
  have c0 := hX.cell 0
  have c2 := hX.cell 2
  have hc : c ≠ g := by
    intro e
    have h1 := h.x.b.cell 0
    rw [e, c0] at h1
    cases h1
  have hq : q ≠ g := by
    intro e
    have h1 := h.x.l.b.cell 0
    rw [e, c0] at h1
    cases h1
  have hm : m ≠ g := by
    intro e
    have h1 := mp_nocell h.x.l.m 0
    rw [e, c0] at h1
    cases h1
  have hp : lp ≠ g := by
    intro e
    have h1 := h.p.cell 0
    rw [e, c0] at h1
    cases h1
  refine ⟨h.b.setCell (p := ⟨g, i, none⟩) hg0 _, ⟨h.x.b.kept gr (by simp [hc]), h.x.l.kept gr (by simp [hq]) (by simp [hm])⟩, h.p.kept gr (by simp [hp]), h.k, fun h0 => ?_, h.m0, h.l0⟩
  obtain ⟨blk, off, h1, h2, h3⟩ := h.r h0
  have hne : blk ≠ g := by
    intro e
    have k2 := h3 0 h0 2 (by omega)
    rw [e, hX.cell] at k2
    have hs : off + 0 * 4 + 2 < 4 ∨ 4 ≤ off + 0 * 4 + 2 := by omega
    rcases hs with hs | hs
    · have : off + 0 * 4 + 2 = 2 ∨ off + 0 * 4 + 2 = 3 := by omega
      rcases this with e2 | e2 <;> rw [e2] at k2 <;> cases k2
    · rw [Array.getElem?_eq_none (by simpa using hs)] at k2
      cases k2
  exact ⟨blk, off, h1, Nat.lt_of_lt_of_le h2 gr.size, fun i hi k hk => (World.cell?_of_block (a := ⟨blk, _, none⟩) (gr.block blk h2 (by simp [hne]))).trans (h3 i hi k hk)⟩
set_option maxHeartbeats 32000000 in
theorem lctells (xs : List Ac) (a0 : Option Addr) (cap : Nat) (mem book : Int) (th : ByteArray) (w : World) (h : Acs w a0 xs) (hmr : Rng mem) (hth : th.size ≤ 140737488351232) : Calls Try.prog 4 #[.slice a0 xs.length cap, .int .i64 mem, .int .i64 book, .string th] w (OkP w) := by
  have HA : Hid (Acs w a0 xs) := h
  have HWa : Hid (∀ b : Int, 1 ≤ b → b ≤ 4 → Wa (mem, b, th.toList)) := fun b h1 h2 => ⟨hmr.wf, (show Rng b by unfold Rng; omega).wf, by simp only [size_toList]; unfold maxLen; omega⟩
  have HN' : Hid (Calls Try.prog 9 #[] w fun e w1 => ∃ c q m, e = .returned (.pointer (some ⟨c, 0, none⟩)) ∧ Hid (w.heap.size ≤ w1.heap.size ∧ Ds w (w1.alloc (.cells #[.slice none 0 0] 25)) c q m w1.heap.size [] none 0)) := ds_new w
  clear h hmr hth
  go_enter Try.func4, Try.ntmps4
  go_wp2_with (go_at_call 9; refine HN'.out.mono ?_; rintro e w1 ⟨c, q, m, rfl, HD1⟩)
  have HD2 : Hid (Ds w (w1.alloc (.cells #[.slice none 0 0] 25)) c q m w1.heap.size [] none 0) := HD1.out.2
  generalize w1.heap.size = lp at *
  clear HN' HD1
  go_loopw [11] (fun i wr => ∃ (k : Nat) (L : List Num.Bal) (al : Option Addr) (cl : Nat), k ≤ xs.length ∧ k ≤ 40 ∧ i = .int .i64 k ∧ Hid (Num.Good L ∧ L.length ≤ 82 * k ∧ Ds w wr c q m lp L al cl))
    (fun i _ => xs.length - (intOf i).toNat)
  case atStart => exact ⟨0, [], none, 0, Nat.zero_le _, by omega, rfl, Num.Good.nil, by simp, HD2.out⟩
  case round =>
    obtain ⟨k, L, al, cl, hk, hk40, rfl, HR⟩ := hrel
    clear HD2
    by_cases hkn : k < xs.length ∧ k < 40
    · have hkz : (k : Int) < (xs.length : Int) := by omega
      have hk4' : (k : Int) < 40 := by omega
      obtain ⟨blk, off, rfl, hbl, hcs⟩ := HA.out.r (by omega)
      have hc8 := hcs k hkn.1
      have hw8 := HA.out.w xs[k] (List.getElem_mem hkn.1)
      generalize xs[k] = x at *
      obtain ⟨k9, a, b, c9, s9, n9, l, la, lc, t, ta, tc⟩ := x
      have hDB := HR.out.2.2.b
      have HCW : Hid (∀ W, Below w.heap.size w W → W.cell? ⟨blk, off + k * 8, none⟩ = some (.int .i64 k9) ∧ W.cell? ⟨blk, off + k * 8 + 1, none⟩ = some (.int .i64 a) ∧ W.cell? ⟨blk, off + k * 8 + 2, none⟩ = some (.int .i64 b) ∧ W.cell? ⟨blk, off + k * 8 + 3, none⟩ = some (.int .i64 c9) ∧ W.cell? ⟨blk, off + k * 8 + 4, none⟩ = some (.string s9) ∧ W.cell? ⟨blk, off + k * 8 + 5, none⟩ = some (.int .i64 n9) ∧ W.cell? ⟨blk, off + k * 8 + 6, none⟩ = some (.slice la l.length lc) ∧ W.cell? ⟨blk, off + k * 8 + 7, none⟩ = some (.slice ta t.length tc)) := fun W hW => ⟨(hW.cell (p := ⟨blk, _, none⟩) hbl).trans (hc8 0 (by omega)), (hW.cell (p := ⟨blk, _, none⟩) hbl).trans (hc8 1 (by omega)), (hW.cell (p := ⟨blk, _, none⟩) hbl).trans (hc8 2 (by omega)), (hW.cell (p := ⟨blk, _, none⟩) hbl).trans (hc8 3 (by omega)), (hW.cell (p := ⟨blk, _, none⟩) hbl).trans (hc8 4 (by omega)), (hW.cell (p := ⟨blk, _, none⟩) hbl).trans (hc8 5 (by omega)), (hW.cell (p := ⟨blk, _, none⟩) hbl).trans (hc8 6 (by omega)), (hW.cell (p := ⟨blk, _, none⟩) hbl).trans (hc8 7 (by omega))⟩
      obtain ⟨c0, c1, c2, c3, c4, c5, c6, c7⟩ := HCW.out wr hDB
      have HSH : Hid (Calls Try.prog 10 #[.agg #[.int .i64 k9, .int .i64 a, .int .i64 b, .int .i64 c9, .string s9, .int .i64 n9, .slice la l.length lc, .slice ta t.length tc]] wr fun e w' => e = .returned (.bool (Ac.sh ⟨k9, a, b, c9, s9, n9, l, la, lc, t, ta, tc⟩)) ∧ Below wr.heap.size wr w') := xsh ⟨k9, a, b, c9, s9, n9, l, la, lc, t, ta, tc⟩ wr
      clear hc8 hcs
      cases hsh : Ac.sh ⟨k9, a, b, c9, s9, n9, l, la, lc, t, ta, tc⟩
      · rw [hsh] at HSH
        have HD3 : Hid (∀ W, Below wr.heap.size wr W → Ds w W c q m lp L al cl) := fun W hW => HR.out.2.2.below hW
        go_wp2_with (go_at_call 10; refine HSH.out.mono ?_; rintro e w2 ⟨rfl, hb2⟩)
        go_roundw
        case rel => exact ⟨k + 1, L, al, cl, by omega, by omega, by simp, HR.out.1, by have := HR.out.2.1; omega, HD3.out _ hb2⟩
        case measure => simp [intOf]; omega
      · rw [hsh] at HSH
        have hLn : L.length ≤ 3280 := by have := HR.out.2.1; omega
        have HDO : Hid (∀ V, Below wr.heap.size wr V → Calls Try.prog 11 #[.pointer (some ⟨c, 0, none⟩), .pointer (some ⟨lp, 0, none⟩), .agg #[.int .i64 k9, .int .i64 a, .int .i64 b, .int .i64 c9, .string s9, .int .i64 n9, .slice la l.length lc, .slice ta t.length tc]] V fun e V' => ∃ al cl, e = .returned (.bool true) ∧ Hid (Ds w V' c q m lp (Ac.L L ⟨k9, a, b, c9, s9, n9, l, la, lc, t, ta, tc⟩) al cl)) := fun V hb => (xdoes w c q m lp L HR.out.1 (by omega) al cl ⟨k9, a, b, c9, s9, n9, l, la, lc, t, ta, tc⟩ hsh V (HR.out.2.2.below hb) ((hw8.below hDB).below hb)).mono fun e V' hh => dop_ds hh
        have HL2 : Hid (Num.Good (Ac.L L ⟨k9, a, b, c9, s9, n9, l, la, lc, t, ta, tc⟩) ∧ (Ac.L L ⟨k9, a, b, c9, s9, n9, l, la, lc, t, ta, tc⟩).length ≤ 82 * (k + 1)) := by
          have := Ac.len L ⟨k9, a, b, c9, s9, n9, l, la, lc, t, ta, tc⟩ hsh
          have := HR.out.2.1
          exact ⟨Ac.good HR.out.1 _, by omega⟩
        have HSH2 : Hid (Calls Try.prog 10 #[.agg #[.int .i64 k9, .int .i64 a, .int .i64 b, .int .i64 c9, .string s9, .int .i64 n9, .slice la l.length lc, .slice ta t.length tc]] wr fun e w2 => e = .returned (.bool true) ∧ (w2.cell? ⟨blk, off + k * 8, none⟩ = some (.int .i64 k9) ∧ w2.cell? ⟨blk, off + k * 8 + 1, none⟩ = some (.int .i64 a) ∧ w2.cell? ⟨blk, off + k * 8 + 2, none⟩ = some (.int .i64 b) ∧ w2.cell? ⟨blk, off + k * 8 + 3, none⟩ = some (.int .i64 c9) ∧ w2.cell? ⟨blk, off + k * 8 + 4, none⟩ = some (.string s9) ∧ w2.cell? ⟨blk, off + k * 8 + 5, none⟩ = some (.int .i64 n9) ∧ w2.cell? ⟨blk, off + k * 8 + 6, none⟩ = some (.slice la l.length lc) ∧ w2.cell? ⟨blk, off + k * 8 + 7, none⟩ = some (.slice ta t.length tc)) ∧ Hid (Below wr.heap.size wr w2)) := HSH.out.mono fun e w2 hh => ⟨hh.1, HCW.out w2 (hDB.trans (hh.2.mono hDB.size)), hh.2⟩
        generalize Ac.L L ⟨k9, a, b, c9, s9, n9, l, la, lc, t, ta, tc⟩ = L2 at *
        clear hsh hw8 HR HSH HCW
        go_wp2_with (first | (go_at_call 10; refine HSH2.out.mono ?_; rintro e w2 ⟨rfl, ⟨d0, d1, d2, d3, d4, d5, d6, d7⟩, hb2⟩; clear HSH2) | (go_at_call 11; refine (HDO.out _ hb2.out).mono ?_; rintro e w3 ⟨al3, cl3, rfl, HD4⟩; clear HDO))
        go_roundw
        case rel => exact ⟨k + 1, L2, al3, cl3, by omega, by omega, by simp, HL2.out.1, HL2.out.2, HD4.out⟩
        case measure => simp [intOf]; omega
    · by_cases hkl : k < xs.length
      · have hkz : (k : Int) < (xs.length : Int) := by omega
        have hk4' : ¬ (k : Int) < 40 := by omega
        have HG : Hid (Num.Good L) := HR.out.1
        have hLn : L.length ≤ 3280 := by have := HR.out.2.1; omega
        obtain ⟨w8, hw8⟩ : ∃ w8, w8 = wr.alloc (.cells #[.int .i64 0, .int .i64 0, .int .i64 0, .int .i64 0] 37) := ⟨_, rfl⟩
        have HW8 : Hid (wr.alloc (.cells #[.int .i64 0, .int .i64 0, .int .i64 0, .int .i64 0] 37) = w8) := hw8.symm
        have HD8 : Hid (Ds w w8 c q m lp L al cl ∧ Bx w8 wr.heap.size #[.int .i64 0, .int .i64 0, .int .i64 0, .int .i64 0] 37) := by
          refine ⟨?_, ?_⟩
          · rw [hw8]; exact HR.out.2.2.below ((Below.refl _ wr).alloc (Nat.le_refl _) _)
          · rw [hw8]; exact Bx.new wr _ _
        have HG12 : Hid (w.heap.size ≤ wr.heap.size) := HR.out.2.2.b.size
        clear hw8 HR HA
        go_wp2_with fail
        rw [HW8.out]
        clear HW8
        generalize wr.heap.size = g12 at *
        have HGT : Hid (∀ W (b : Int), Ds w W c q m lp L al cl → Calls Try.prog 15 #[.slice al L.length cl, .agg #[.int .i64 mem, .int .i64 b, .string th]] W fun e w' => e = .returned (.int .i64 (Num.get L (mem, b, th.toList))) ∧ Below W.heap.size W w') := fun W b hW => rget L (by omega) al cl mem b th W hW.r
        obtain ⟨G1, hG1⟩ : ∃ G, G = Num.get L (mem, 1, th.toList) := ⟨_, rfl⟩
        obtain ⟨G2, hG2⟩ : ∃ G, G = Num.get L (mem, 2, th.toList) := ⟨_, rfl⟩
        obtain ⟨G3, hG3⟩ : ∃ G, G = Num.get L (mem, 3, th.toList) := ⟨_, rfl⟩
        obtain ⟨G4, hG4⟩ : ∃ G, G = Num.get L (mem, 4, th.toList) := ⟨_, rfl⟩
        have HPO : Hid (∀ W, Ds w W c q m lp L al cl → Calls Try.prog 16 #[.pointer (some ⟨c, 0, none⟩), .int .i64 mem, .string th] W fun e w' => e = .returned (.agg #[.int .i64 G1, .int .i64 G2, .int .i64 G3, .int .i64 G4]) ∧ Below W.heap.size W w') := fun W hW => by rw [hG1, hG2, hG3, hG4]; exact xpos c q m L mem th (fun b h1 h2 => HWa.out b h1 h2) W hW.x
        have HST : Hid (∀ (W : World) (b i : Nat) (V : Int) (v0 v1 v2 v3 : Int), Ds w W c q m lp L al cl → Bx W g12 #[.int .i64 v0, .int .i64 v1, .int .i64 v2, .int .i64 v3] 37 → i < 4 → ∀ G : Int, G = Num.get L (mem, (i : Int) + 1, th.toList) → Calls Try.prog 15 #[.slice al L.length cl, .agg #[.int .i64 mem, .int .i64 ((i : Int) + 1), .string th]] W fun e w' => e = .returned (.int .i64 G) ∧ w'.cell? ⟨g12, 0, none⟩ = some (.int .i64 v0) ∧ w'.cell? ⟨g12, 1, none⟩ = some (.int .i64 v1) ∧ w'.cell? ⟨g12, 2, none⟩ = some (.int .i64 v2) ∧ w'.cell? ⟨g12, 3, none⟩ = some (.int .i64 v3) ∧ w'.frozen? ⟨g12, 0, none⟩ = false ∧ w'.frozen? ⟨g12, 1, none⟩ = false ∧ w'.frozen? ⟨g12, 2, none⟩ = false ∧ w'.frozen? ⟨g12, 3, none⟩ = false ∧ Hid (Ds w (w'.setCell ⟨g12, i, none⟩ (.int .i64 G)) c q m lp L al cl ∧ Bx (w'.setCell ⟨g12, i, none⟩ (.int .i64 G)) g12 (#[.int .i64 v0, .int .i64 v1, .int .i64 v2, .int .i64 v3].setIfInBounds i (.int .i64 G)) 37)) := fun W b i V v0 v1 v2 v3 hW hX hi G hG => (HGT.out W _ hW).mono fun e w' kk => by
          have hX' := hX.below kk.2 hX.lt
          exact ⟨by rw [hG]; exact kk.1, hX'.cell 0, hX'.cell 1, hX'.cell 2, hX'.cell 3, hX'.froz 0, hX'.froz 1, hX'.froz 2, hX'.froz 3, ds_arr (hW.below kk.2) hX' i G HG12.out, hX'.setc i _⟩
        go_loopw [13] (fun i w9 => ∃ k2 : Nat, k2 ≤ 4 ∧ i = .int .i64 k2 ∧ Hid (Ds w w9 c q m lp L al cl ∧ Bx w9 g12 #[.int .i64 (if 0 < k2 then G1 else 0), .int .i64 (if 1 < k2 then G2 else 0), .int .i64 (if 2 < k2 then G3 else 0), .int .i64 (if 3 < k2 then G4 else 0)] 37))
          (fun i _ => 4 - (intOf i).toNat)
        case atStart => exact ⟨0, by omega, rfl, HD8.out⟩
        case round =>
          obtain ⟨k2, hk2, rfl, HR2⟩ := hrel
          clear HD8
          have hlpc : wr.cell? ⟨lp, 0, none⟩ = some (.slice al L.length cl) := HR2.out.1.p.cell 0
          rcases k2 with _ | _ | _ | _ | k2
          · have HX : Hid (Bx wr g12 #[.int .i64 0, .int .i64 0, .int .i64 0, .int .i64 0] 37) := HR2.out.2
            have HC : Hid (Calls Try.prog 15 #[.slice al L.length cl, .agg #[.int .i64 mem, .int .i64 1, .string th]] wr fun e w' => e = .returned (.int .i64 G1) ∧ w'.cell? ⟨g12, 0, none⟩ = some (.int .i64 0) ∧ w'.cell? ⟨g12, 1, none⟩ = some (.int .i64 0) ∧ w'.cell? ⟨g12, 2, none⟩ = some (.int .i64 0) ∧ w'.cell? ⟨g12, 3, none⟩ = some (.int .i64 0) ∧ w'.frozen? ⟨g12, 0, none⟩ = false ∧ w'.frozen? ⟨g12, 1, none⟩ = false ∧ w'.frozen? ⟨g12, 2, none⟩ = false ∧ w'.frozen? ⟨g12, 3, none⟩ = false ∧ Hid (Ds w (w'.setCell ⟨g12, 0, none⟩ (.int .i64 G1)) c q m lp L al cl ∧ Bx (w'.setCell ⟨g12, 0, none⟩ (.int .i64 G1)) g12 #[.int .i64 G1, .int .i64 0, .int .i64 0, .int .i64 0] 37)) := HST.out wr 0 0 0 _ _ _ _ HR2.out.1 HX.out (by omega) G1 hG1
            clear HR2 HX HST HPO HGT hG1 hG2 hG3 hG4
            go_wp2_with (go_at_call 15; refine HC.out.mono ?_; rintro e w9 ⟨rfl, q0, q1, q2, q3, f0, f1, f2, f3, HZ⟩)
            go_roundw
            case rel => exact ⟨1, by omega, by simp, HZ.out⟩
            case measure => simp [intOf]
          · have HX : Hid (Bx wr g12 #[.int .i64 G1, .int .i64 0, .int .i64 0, .int .i64 0] 37) := HR2.out.2
            have HC : Hid (Calls Try.prog 15 #[.slice al L.length cl, .agg #[.int .i64 mem, .int .i64 2, .string th]] wr fun e w' => e = .returned (.int .i64 G2) ∧ w'.cell? ⟨g12, 0, none⟩ = some (.int .i64 G1) ∧ w'.cell? ⟨g12, 1, none⟩ = some (.int .i64 0) ∧ w'.cell? ⟨g12, 2, none⟩ = some (.int .i64 0) ∧ w'.cell? ⟨g12, 3, none⟩ = some (.int .i64 0) ∧ w'.frozen? ⟨g12, 0, none⟩ = false ∧ w'.frozen? ⟨g12, 1, none⟩ = false ∧ w'.frozen? ⟨g12, 2, none⟩ = false ∧ w'.frozen? ⟨g12, 3, none⟩ = false ∧ Hid (Ds w (w'.setCell ⟨g12, 1, none⟩ (.int .i64 G2)) c q m lp L al cl ∧ Bx (w'.setCell ⟨g12, 1, none⟩ (.int .i64 G2)) g12 #[.int .i64 G1, .int .i64 G2, .int .i64 0, .int .i64 0] 37)) := HST.out wr 0 1 0 _ _ _ _ HR2.out.1 HX.out (by omega) G2 hG2
            clear HR2 HX HST HPO HGT hG1 hG2 hG3 hG4
            go_wp2_with (go_at_call 15; refine HC.out.mono ?_; rintro e w9 ⟨rfl, q0, q1, q2, q3, f0, f1, f2, f3, HZ⟩)
            go_roundw
            case rel => exact ⟨2, by omega, by simp, HZ.out⟩
            case measure => simp [intOf]
          · have HX : Hid (Bx wr g12 #[.int .i64 G1, .int .i64 G2, .int .i64 0, .int .i64 0] 37) := HR2.out.2
            have HC : Hid (Calls Try.prog 15 #[.slice al L.length cl, .agg #[.int .i64 mem, .int .i64 3, .string th]] wr fun e w' => e = .returned (.int .i64 G3) ∧ w'.cell? ⟨g12, 0, none⟩ = some (.int .i64 G1) ∧ w'.cell? ⟨g12, 1, none⟩ = some (.int .i64 G2) ∧ w'.cell? ⟨g12, 2, none⟩ = some (.int .i64 0) ∧ w'.cell? ⟨g12, 3, none⟩ = some (.int .i64 0) ∧ w'.frozen? ⟨g12, 0, none⟩ = false ∧ w'.frozen? ⟨g12, 1, none⟩ = false ∧ w'.frozen? ⟨g12, 2, none⟩ = false ∧ w'.frozen? ⟨g12, 3, none⟩ = false ∧ Hid (Ds w (w'.setCell ⟨g12, 2, none⟩ (.int .i64 G3)) c q m lp L al cl ∧ Bx (w'.setCell ⟨g12, 2, none⟩ (.int .i64 G3)) g12 #[.int .i64 G1, .int .i64 G2, .int .i64 G3, .int .i64 0] 37)) := HST.out wr 0 2 0 _ _ _ _ HR2.out.1 HX.out (by omega) G3 hG3
            clear HR2 HX HST HPO HGT hG1 hG2 hG3 hG4
            go_wp2_with (go_at_call 15; refine HC.out.mono ?_; rintro e w9 ⟨rfl, q0, q1, q2, q3, f0, f1, f2, f3, HZ⟩)
            go_roundw
            case rel => exact ⟨3, by omega, by simp, HZ.out⟩
            case measure => simp [intOf]
          · have HX : Hid (Bx wr g12 #[.int .i64 G1, .int .i64 G2, .int .i64 G3, .int .i64 0] 37) := HR2.out.2
            have HC : Hid (Calls Try.prog 15 #[.slice al L.length cl, .agg #[.int .i64 mem, .int .i64 4, .string th]] wr fun e w' => e = .returned (.int .i64 G4) ∧ w'.cell? ⟨g12, 0, none⟩ = some (.int .i64 G1) ∧ w'.cell? ⟨g12, 1, none⟩ = some (.int .i64 G2) ∧ w'.cell? ⟨g12, 2, none⟩ = some (.int .i64 G3) ∧ w'.cell? ⟨g12, 3, none⟩ = some (.int .i64 0) ∧ w'.frozen? ⟨g12, 0, none⟩ = false ∧ w'.frozen? ⟨g12, 1, none⟩ = false ∧ w'.frozen? ⟨g12, 2, none⟩ = false ∧ w'.frozen? ⟨g12, 3, none⟩ = false ∧ Hid (Ds w (w'.setCell ⟨g12, 3, none⟩ (.int .i64 G4)) c q m lp L al cl ∧ Bx (w'.setCell ⟨g12, 3, none⟩ (.int .i64 G4)) g12 #[.int .i64 G1, .int .i64 G2, .int .i64 G3, .int .i64 G4] 37)) := HST.out wr 0 3 0 _ _ _ _ HR2.out.1 HX.out (by omega) G4 hG4
            clear HR2 HX HST HPO HGT hG1 hG2 hG3 hG4
            go_wp2_with (go_at_call 15; refine HC.out.mono ?_; rintro e w9 ⟨rfl, q0, q1, q2, q3, f0, f1, f2, f3, HZ⟩)
            go_roundw
            case rel => exact ⟨4, by omega, by simp, HZ.out⟩
            case measure => simp [intOf]
          · obtain rfl : k2 = 0 := by omega
            have HX : Hid (Bx wr g12 #[.int .i64 G1, .int .i64 G2, .int .i64 G3, .int .i64 G4] 37) := HR2.out.2
            have HP2 : Hid (Calls Try.prog 16 #[.pointer (some ⟨c, 0, none⟩), .int .i64 mem, .string th] wr fun e w' => e = .returned (.agg #[.int .i64 G1, .int .i64 G2, .int .i64 G3, .int .i64 G4]) ∧ ∃ wz, w'.alloc (.cells #[.int .i64 G1, .int .i64 G2, .int .i64 G3, .int .i64 G4] 42) = wz ∧ Hid (Ds w wz c q m lp L al cl ∧ Bx wz g12 #[.int .i64 G1, .int .i64 G2, .int .i64 G3, .int .i64 G4] 37 ∧ Bx wz w'.heap.size #[.int .i64 G1, .int .i64 G2, .int .i64 G3, .int .i64 G4] 42)) := (HPO.out wr HR2.out.1).mono fun e w' kk => by
              have hb : Below wr.heap.size wr (w'.alloc (.cells #[.int .i64 G1, .int .i64 G2, .int .i64 G3, .int .i64 G4] 42)) := kk.2.alloc kk.2.size _
              exact ⟨kk.1, _, rfl, HR2.out.1.below hb, HX.out.below hb HX.out.lt, Bx.new w' _ _⟩
            clear HR2 HX HST HPO HGT hG1 hG2 hG3 hG4 hlpc
            go_upto_region 14 with (go_at_call 16; refine HP2.out.mono ?_; rintro e w9 ⟨rfl, wz, hwz, HZ⟩; clear HP2)
            try rw [hwz]
            clear hwz
            generalize w9.heap.size = g14 at *
            obtain ⟨hD, hX12, hX14⟩ := HZ.out
            have hl12 := hX12.lt
            have hl14 := hX14.lt
            have hlp := hD.p.lt
            have C17 : Hid (∀ W, Calls Try.prog 17 #[.agg #[.int .i64 G1, .int .i64 G2, .int .i64 G3, .int .i64 G4]] W fun e w' => e = .returned (.int .i64 (wrap64 (wrap64 (wrap64 (G1 + G2) + G3) + G4))) ∧ Below W.heap.size W w') := fun W => xpall G1 G2 G3 G4 W
            have C19 : Hid (∀ W, Below wz.heap.size wz W → Calls Try.prog 19 #[.pointer (some ⟨c, 0, none⟩), .int .i64 mem, .int .i64 book] W fun e w' => ∃ a5 c5, e = .returned (.slice a5 (lotsB mem book L).length c5) ∧ Hid (Lts w' a5 (lotsB mem book L) ∧ Below W.heap.size W w')) := fun W hW => (xclots c q m L (by omega) (good_len HG.out) mem book W (hD.below hW).x).mono fun e w' kk => lots_rw kk
            have C20 : Hid (∀ W, Below wz.heap.size wz W → Calls Try.prog 20 #[.slice al L.length cl, .int .i64 mem, .int .i64 book] W fun e w' => ∃ a5 c5, e = .returned (.slice a5 (lotsB mem book L).length c5) ∧ Hid (Lts w' a5 (lotsB mem book L) ∧ Below W.heap.size W w')) := fun W hW => (rlotsB L (by omega) al cl mem book W (hD.below hW).r).mono fun e w' kk => lots_rw kk
            have C22 : Hid (∀ W, Below wz.heap.size wz W → Calls Try.prog 22 #[.pointer (some ⟨c, 0, none⟩)] W fun e w' => ∃ a6 c6, e = .returned (.slice a6 (cmp L).length c6) ∧ Hid (Tx w' a6 (cmp L) ∧ Below W.heap.size W w')) := fun W hW => xcthings c q m L (by omega) (good_len HG.out) W (hD.below hW).x
            have C23 : Hid (∀ W, Below wz.heap.size wz W → Calls Try.prog 23 #[.slice al L.length cl] W fun e w' => ∃ a7 c7, e = .returned (.slice a7 (cmp L).length c7) ∧ Hid (Tx w' a7 (cmp L) ∧ Below W.heap.size W w')) := fun W hW => (rthings L (by omega) al cl W (hD.below hW).r).mono fun e w' hh => by
              obtain ⟨v, rfl, ho, hb⟩ := hh
              obtain ⟨a7, c7, rfl, _, ht⟩ := own_rw strc_len ho rfl
              exact ⟨a7, c7, rfl, ht, hb⟩
            have C24 : Hid (∀ W, Below wz.heap.size wz W → Calls Try.prog 24 #[.pointer (some ⟨c, 0, none⟩), .string th] W fun e w' => e = .returned (.int .i64 (wrap64 (-(wrap64 (Num.hld 0 th.toList L))))) ∧ Below W.heap.size W w') := fun W hW => xcout c q m L th W (hD.below hW).x
            have C25 : Hid (∀ W, Below wz.heap.size wz W → Calls Try.prog 25 #[.slice al L.length cl, .int .i64 0, .string th] W fun e w' => e = .returned (.int .i64 (wrap64 (Num.hld 0 th.toList L))) ∧ Below W.heap.size W w') := fun W hW => (rheld L (by omega) al cl 0 th W (hD.below hW).r).mono fun e w' kk => ⟨kk.1, by rw [← kk.2]; exact Below.refl _ _⟩
            have hlotl : (lotsB mem book L).length ≤ 1000000 := by
              have := lots_len mem book L
              unfold lotsB
              split
              · simp
              · omega
            have hcl : (cmp L).length ≤ 1000000 := by have := cmp_len L; omega
            have hou2 : IntKind.i64.wrap (-(wrap64 (Num.hld 0 th.toList L))) = wrap64 (-(wrap64 (Num.hld 0 th.toList L))) := i64_wrap _
            generalize wrap64 (-(wrap64 (Num.hld 0 th.toList L))) = OV at *
            have hs1 : IntKind.i64.wrap (G1 + G2) = wrap64 (G1 + G2) := i64_wrap _
            have hs2 : IntKind.i64.wrap (wrap64 (G1 + G2) + G3) = wrap64 (wrap64 (G1 + G2) + G3) := i64_wrap _
            have hs3 : IntKind.i64.wrap (wrap64 (wrap64 (G1 + G2) + G3) + G4) = wrap64 (wrap64 (wrap64 (G1 + G2) + G3) + G4) := i64_wrap _
            generalize wrap64 (wrap64 (wrap64 (G1 + G2) + G3) + G4) = A3 at *
            generalize wrap64 (wrap64 (G1 + G2) + G3) = A2 at *
            generalize wrap64 (G1 + G2) = A1 at *
            have heq := eql42
            refine wp_region_held (S := fun W => Below wz.heap.size wz W) (by kernel_rfl) ?_
            change wpAnyH _ _ _ _ _ 59 #[false, false, false, false, false, false, false, false, false, false, false, false, false, false, false, false, false, false, false, false, false, false, false, false, false, false, false, false, false, false, false, false, false, false, false, false, false, false, false, false, false, false, false, false, false, false, false, false, false, false, false, false, false, false, false, false, false, false, false] _ wz.drew
            have hS0 : Below wz.heap.size wz wz.drew := ⟨rfl, rfl, rfl, Nat.le_refl _, fun _ _ => rfl⟩
            obtain ⟨v0, hv0⟩ : ∃ v, v = wz.drew := ⟨_, rfl⟩
            rw [← hv0] at hS0 ⊢
            clear hv0
            refine takeR (fuel := 58) (i := 0) (v := .agg #[.int .i64 G1, .int .i64 G2, .int .i64 G3, .int .i64 G4]) rfl (by kernel_rfl) (by kernel_rfl) (by kernel_rfl) (fun _ _ _ h => h) (Or.inl ⟨rfl, fun W hW => exl _ _ _ _ rfl _ _ rfl (load42p W g14 _ _ _ _ ((hX14.below hW hl14).cell 0) ((hX14.below hW hl14).cell 1) ((hX14.below hW hl14).cell 2) ((hX14.below hW hl14).cell 3))⟩) hS0 ?_
            simp only [Act.put, List.setIfInBounds_toArray, List.set_cons_zero, List.set_cons_succ]
            refine takeR (fuel := 57) (i := 1) (v := .pointer (some ⟨g12, 0, none⟩)) rfl (by kernel_rfl) (by kernel_rfl) (by kernel_rfl) (fun _ _ _ h => h) (Or.inl ⟨rfl, fun W hW => by go_simp⟩) hS0 ?_
            simp only [Act.put, List.setIfInBounds_toArray, List.set_cons_zero, List.set_cons_succ]
            refine takeR (fuel := 56) (i := 2) (v := .int .i64 G1) rfl (by kernel_rfl) (by kernel_rfl) (by kernel_rfl) (fun _ _ _ h => h) (Or.inl ⟨rfl, fun W hW => by have cj : W.cell? ⟨g12, 0, none⟩ = some (.int .i64 G1) := (hX12.below hW hl12).cell 0; go_simp⟩) hS0 ?_
            simp only [Act.put, List.setIfInBounds_toArray, List.set_cons_zero, List.set_cons_succ]
            refine takeR (fuel := 55) (i := 3) (v := .pointer (some ⟨g12, 1, none⟩)) rfl (by kernel_rfl) (by kernel_rfl) (by kernel_rfl) (fun _ _ _ h => h) (Or.inl ⟨rfl, fun W hW => by go_simp⟩) hS0 ?_
            simp only [Act.put, List.setIfInBounds_toArray, List.set_cons_zero, List.set_cons_succ]
            refine takeR (fuel := 54) (i := 4) (v := .int .i64 G2) rfl (by kernel_rfl) (by kernel_rfl) (by kernel_rfl) (fun _ _ _ h => h) (Or.inl ⟨rfl, fun W hW => by have cj : W.cell? ⟨g12, 1, none⟩ = some (.int .i64 G2) := (hX12.below hW hl12).cell 1; go_simp⟩) hS0 ?_
            simp only [Act.put, List.setIfInBounds_toArray, List.set_cons_zero, List.set_cons_succ]
            refine takeR (fuel := 53) (i := 5) (v := .pointer (some ⟨g12, 2, none⟩)) rfl (by kernel_rfl) (by kernel_rfl) (by kernel_rfl) (fun _ _ _ h => h) (Or.inl ⟨rfl, fun W hW => by go_simp⟩) hS0 ?_
            simp only [Act.put, List.setIfInBounds_toArray, List.set_cons_zero, List.set_cons_succ]
            refine takeR (fuel := 52) (i := 6) (v := .int .i64 G3) rfl (by kernel_rfl) (by kernel_rfl) (by kernel_rfl) (fun _ _ _ h => h) (Or.inl ⟨rfl, fun W hW => by have cj : W.cell? ⟨g12, 2, none⟩ = some (.int .i64 G3) := (hX12.below hW hl12).cell 2; go_simp⟩) hS0 ?_
            simp only [Act.put, List.setIfInBounds_toArray, List.set_cons_zero, List.set_cons_succ]
            refine takeR (fuel := 51) (i := 7) (v := .pointer (some ⟨g12, 3, none⟩)) rfl (by kernel_rfl) (by kernel_rfl) (by kernel_rfl) (fun _ _ _ h => h) (Or.inl ⟨rfl, fun W hW => by go_simp⟩) hS0 ?_
            simp only [Act.put, List.setIfInBounds_toArray, List.set_cons_zero, List.set_cons_succ]
            refine takeR (fuel := 50) (i := 8) (v := .int .i64 G4) rfl (by kernel_rfl) (by kernel_rfl) (by kernel_rfl) (fun _ _ _ h => h) (Or.inl ⟨rfl, fun W hW => by have cj : W.cell? ⟨g12, 3, none⟩ = some (.int .i64 G4) := (hX12.below hW hl12).cell 3; go_simp⟩) hS0 ?_
            simp only [Act.put, List.setIfInBounds_toArray, List.set_cons_zero, List.set_cons_succ]
            refine takeR (fuel := 49) (i := 9) (v := .agg #[.int .i64 G1, .int .i64 G2, .int .i64 G3, .int .i64 G4]) rfl (by kernel_rfl) (by kernel_rfl) (by kernel_rfl) (fun _ _ _ h => h) (Or.inl ⟨rfl, fun W hW => by go_simp⟩) hS0 ?_
            simp only [Act.put, List.setIfInBounds_toArray, List.set_cons_zero, List.set_cons_succ]
            refine takeR (fuel := 48) (i := 10) (v := .bool true) rfl (by kernel_rfl) (by kernel_rfl) (by kernel_rfl) (fun _ _ _ h => h) (Or.inl ⟨rfl, fun W hW => by go_simp⟩) hS0 ?_
            simp only [Act.put, List.setIfInBounds_toArray, List.set_cons_zero, List.set_cons_succ]
            refine takeR (fuel := 47) (i := 11) (v := .bool true) rfl (by kernel_rfl) (by kernel_rfl) (by kernel_rfl) (fun _ _ _ h => h) (Or.inl ⟨rfl, fun W hW => by go_simp⟩) hS0 ?_
            simp only [Act.put, List.setIfInBounds_toArray, List.set_cons_zero, List.set_cons_succ]
            refine takeR (fuel := 46) (i := 12) (v := .agg #[.int .i64 G1, .int .i64 G2, .int .i64 G3, .int .i64 G4]) rfl (by kernel_rfl) (by kernel_rfl) (by kernel_rfl) (fun _ _ _ h => h) (Or.inl ⟨rfl, fun W hW => exl _ _ _ _ rfl _ _ rfl (load42p W g14 _ _ _ _ ((hX14.below hW hl14).cell 0) ((hX14.below hW hl14).cell 1) ((hX14.below hW hl14).cell 2) ((hX14.below hW hl14).cell 3))⟩) hS0 ?_
            simp only [Act.put, List.setIfInBounds_toArray, List.set_cons_zero, List.set_cons_succ]
            refine takeR (fuel := 45) (i := 14) (v := .pointer (some ⟨g12, 0, none⟩)) rfl (by kernel_rfl) (by kernel_rfl) (by kernel_rfl) (fun _ _ _ h => h) (Or.inl ⟨rfl, fun W hW => by go_simp⟩) hS0 ?_
            simp only [Act.put, List.setIfInBounds_toArray, List.set_cons_zero, List.set_cons_succ]
            refine takeR (fuel := 44) (i := 15) (v := .int .i64 G1) rfl (by kernel_rfl) (by kernel_rfl) (by kernel_rfl) (fun _ _ _ h => h) (Or.inl ⟨rfl, fun W hW => by have cj : W.cell? ⟨g12, 0, none⟩ = some (.int .i64 G1) := (hX12.below hW hl12).cell 0; go_simp⟩) hS0 ?_
            simp only [Act.put, List.setIfInBounds_toArray, List.set_cons_zero, List.set_cons_succ]
            refine takeR (fuel := 43) (i := 16) (v := .pointer (some ⟨g12, 1, none⟩)) rfl (by kernel_rfl) (by kernel_rfl) (by kernel_rfl) (fun _ _ _ h => h) (Or.inl ⟨rfl, fun W hW => by go_simp⟩) hS0 ?_
            simp only [Act.put, List.setIfInBounds_toArray, List.set_cons_zero, List.set_cons_succ]
            refine takeR (fuel := 42) (i := 17) (v := .int .i64 G2) rfl (by kernel_rfl) (by kernel_rfl) (by kernel_rfl) (fun _ _ _ h => h) (Or.inl ⟨rfl, fun W hW => by have cj : W.cell? ⟨g12, 1, none⟩ = some (.int .i64 G2) := (hX12.below hW hl12).cell 1; go_simp⟩) hS0 ?_
            simp only [Act.put, List.setIfInBounds_toArray, List.set_cons_zero, List.set_cons_succ]
            refine takeR (fuel := 41) (i := 18) (v := .int .i64 A1) rfl (by kernel_rfl) (by kernel_rfl) (by kernel_rfl) (fun _ _ _ h => h) (Or.inl ⟨rfl, fun W hW => by go_simp⟩) hS0 ?_
            simp only [Act.put, List.setIfInBounds_toArray, List.set_cons_zero, List.set_cons_succ]
            refine takeR (fuel := 40) (i := 19) (v := .pointer (some ⟨g12, 2, none⟩)) rfl (by kernel_rfl) (by kernel_rfl) (by kernel_rfl) (fun _ _ _ h => h) (Or.inl ⟨rfl, fun W hW => by go_simp⟩) hS0 ?_
            simp only [Act.put, List.setIfInBounds_toArray, List.set_cons_zero, List.set_cons_succ]
            refine takeR (fuel := 39) (i := 20) (v := .int .i64 G3) rfl (by kernel_rfl) (by kernel_rfl) (by kernel_rfl) (fun _ _ _ h => h) (Or.inl ⟨rfl, fun W hW => by have cj : W.cell? ⟨g12, 2, none⟩ = some (.int .i64 G3) := (hX12.below hW hl12).cell 2; go_simp⟩) hS0 ?_
            simp only [Act.put, List.setIfInBounds_toArray, List.set_cons_zero, List.set_cons_succ]
            refine takeR (fuel := 38) (i := 21) (v := .int .i64 A2) rfl (by kernel_rfl) (by kernel_rfl) (by kernel_rfl) (fun _ _ _ h => h) (Or.inl ⟨rfl, fun W hW => by go_simp⟩) hS0 ?_
            simp only [Act.put, List.setIfInBounds_toArray, List.set_cons_zero, List.set_cons_succ]
            refine takeR (fuel := 37) (i := 22) (v := .pointer (some ⟨g12, 3, none⟩)) rfl (by kernel_rfl) (by kernel_rfl) (by kernel_rfl) (fun _ _ _ h => h) (Or.inl ⟨rfl, fun W hW => by go_simp⟩) hS0 ?_
            simp only [Act.put, List.setIfInBounds_toArray, List.set_cons_zero, List.set_cons_succ]
            refine takeR (fuel := 36) (i := 23) (v := .int .i64 G4) rfl (by kernel_rfl) (by kernel_rfl) (by kernel_rfl) (fun _ _ _ h => h) (Or.inl ⟨rfl, fun W hW => by have cj : W.cell? ⟨g12, 3, none⟩ = some (.int .i64 G4) := (hX12.below hW hl12).cell 3; go_simp⟩) hS0 ?_
            simp only [Act.put, List.setIfInBounds_toArray, List.set_cons_zero, List.set_cons_succ]
            refine takeR (fuel := 35) (i := 24) (v := .int .i64 A3) rfl (by kernel_rfl) (by kernel_rfl) (by kernel_rfl) (fun _ _ _ h => h) (Or.inl ⟨rfl, fun W hW => by go_simp⟩) hS0 ?_
            simp only [Act.put, List.setIfInBounds_toArray, List.set_cons_zero, List.set_cons_succ]
            refine consR (fuel := 34) (i := 13) rfl (by kernel_rfl) (fun K hK => ?_)
            rw [if_pos (by rfl)]
            go_simp
            refine (C17.out v0).mono ?_
            rintro e v1 ⟨rfl, hC⟩
            refine hK.out _ _ (hS0.trans (hC.mono hS0.size)) (fun hS1 => ?_)
            have hT1 : Below v0.heap.size v0 v1 := hC
            clear hK hC
            try simp only [Act.put, List.setIfInBounds_toArray, List.set_cons_zero, List.set_cons_succ]
            refine takeR (fuel := 33) (i := 25) (v := .bool true) rfl (by kernel_rfl) (by kernel_rfl) (by kernel_rfl) (fun _ _ _ h => h) (Or.inl ⟨rfl, fun W hW => by go_simp⟩) hS1 ?_
            simp only [Act.put, List.setIfInBounds_toArray, List.set_cons_zero, List.set_cons_succ]
            refine takeR (fuel := 32) (i := 26) (v := .bool true) rfl (by kernel_rfl) (by kernel_rfl) (by kernel_rfl) (fun _ _ _ h => h) (Or.inl ⟨rfl, fun W hW => by go_simp⟩) hS1 ?_
            simp only [Act.put, List.setIfInBounds_toArray, List.set_cons_zero, List.set_cons_succ]
            refine takeR (fuel := 31) (i := 27) (v := .bool true) rfl (by kernel_rfl) (by kernel_rfl) (by kernel_rfl) (fun _ _ _ h => h) (Or.inl ⟨rfl, fun W hW => by go_simp⟩) hS1 ?_
            simp only [Act.put, List.setIfInBounds_toArray, List.set_cons_zero, List.set_cons_succ]
            refine takeR (fuel := 30) (i := 28) (v := .pointer (some ⟨c, 0, none⟩)) rfl (by kernel_rfl) (by kernel_rfl) (by kernel_rfl) (fun _ _ _ h => h) (Or.inl ⟨rfl, fun W hW => by go_simp⟩) hS1 ?_
            simp only [Act.put, List.setIfInBounds_toArray, List.set_cons_zero, List.set_cons_succ]
            refine takeR (fuel := 29) (i := 29) (v := .int .i64 mem) rfl (by kernel_rfl) (by kernel_rfl) (by kernel_rfl) (fun _ _ _ h => h) (Or.inl ⟨rfl, fun W hW => by go_simp⟩) hS1 ?_
            simp only [Act.put, List.setIfInBounds_toArray, List.set_cons_zero, List.set_cons_succ]
            refine takeR (fuel := 28) (i := 30) (v := .int .i64 book) rfl (by kernel_rfl) (by kernel_rfl) (by kernel_rfl) (fun _ _ _ h => h) (Or.inl ⟨rfl, fun W hW => by go_simp⟩) hS1 ?_
            simp only [Act.put, List.setIfInBounds_toArray, List.set_cons_zero, List.set_cons_succ]
            refine takeR (fuel := 27) (i := 32) (v := .slice al L.length cl) rfl (by kernel_rfl) (by kernel_rfl) (by kernel_rfl) (fun _ _ _ h => h) (Or.inl ⟨rfl, fun W hW => by have cj : W.cell? ⟨lp, 0, none⟩ = some (.slice al L.length cl) := (hD.p.below hW hlp).cell 0; go_simp⟩) hS1 ?_
            simp only [Act.put, List.setIfInBounds_toArray, List.set_cons_zero, List.set_cons_succ]
            refine takeR (fuel := 26) (i := 33) (v := .int .i64 mem) rfl (by kernel_rfl) (by kernel_rfl) (by kernel_rfl) (fun _ _ _ h => h) (Or.inl ⟨rfl, fun W hW => by go_simp⟩) hS1 ?_
            simp only [Act.put, List.setIfInBounds_toArray, List.set_cons_zero, List.set_cons_succ]
            refine takeR (fuel := 25) (i := 34) (v := .int .i64 book) rfl (by kernel_rfl) (by kernel_rfl) (by kernel_rfl) (fun _ _ _ h => h) (Or.inl ⟨rfl, fun W hW => by go_simp⟩) hS1 ?_
            simp only [Act.put, List.setIfInBounds_toArray, List.set_cons_zero, List.set_cons_succ]
            refine consR (fuel := 24) (i := 31) rfl (by kernel_rfl) (fun K hK => ?_)
            rw [if_pos (by rfl)]
            go_simp
            refine (C19.out v1 hS1).mono ?_
            rintro e v2 ⟨a5, c5, rfl, HZ5⟩
            have hC := HZ5.out.2
            refine hK.out _ _ (hS1.trans (hC.mono hS1.size)) (fun hS2 => ?_)
            have hT2 : Below v1.heap.size v1 v2 := hC
            clear hK hC
            try simp only [Act.put, List.setIfInBounds_toArray, List.set_cons_zero, List.set_cons_succ]
            refine consR (fuel := 23) (i := 35) rfl (by kernel_rfl) (fun K hK => ?_)
            rw [if_pos (by rfl)]
            go_simp
            refine (C20.out v2 hS2).mono ?_
            rintro e v3 ⟨a6, c6, rfl, HZ6⟩
            have hC := HZ6.out.2
            refine hK.out _ _ (hS2.trans (hC.mono hS2.size)) (fun hS3 => ?_)
            have hT3 : Below v2.heap.size v2 v3 := hC
            clear hK hC
            try simp only [Act.put, List.setIfInBounds_toArray, List.set_cons_zero, List.set_cons_succ]
            refine consR (fuel := 22) (i := 36) rfl (by kernel_rfl) (fun K hK => ?_)
            rw [if_pos (by rfl)]
            go_simp
            refine (rlots (lotsB mem book L) hlotl a5 c5 a6 c6 v3 (HZ5.out.1.below hT3) HZ6.out.1).mono ?_
            rintro e v4 ⟨rfl, hC⟩
            refine hK.out _ _ (hS3.trans (hC.mono hS3.size)) (fun hS4 => ?_)
            have hT4 : Below v3.heap.size v3 v4 := hC
            clear hK hC
            try simp only [Act.put, List.setIfInBounds_toArray, List.set_cons_zero, List.set_cons_succ]
            refine takeR (fuel := 21) (i := 37) (v := .bool true) rfl (by kernel_rfl) (by kernel_rfl) (by kernel_rfl) (fun _ _ _ h => h) (Or.inl ⟨rfl, fun W hW => by go_simp⟩) hS4 ?_
            simp only [Act.put, List.setIfInBounds_toArray, List.set_cons_zero, List.set_cons_succ]
            refine takeR (fuel := 20) (i := 38) (v := .bool true) rfl (by kernel_rfl) (by kernel_rfl) (by kernel_rfl) (fun _ _ _ h => h) (Or.inl ⟨rfl, fun W hW => by go_simp⟩) hS4 ?_
            simp only [Act.put, List.setIfInBounds_toArray, List.set_cons_zero, List.set_cons_succ]
            refine takeR (fuel := 19) (i := 39) (v := .pointer (some ⟨c, 0, none⟩)) rfl (by kernel_rfl) (by kernel_rfl) (by kernel_rfl) (fun _ _ _ h => h) (Or.inl ⟨rfl, fun W hW => by go_simp⟩) hS4 ?_
            simp only [Act.put, List.setIfInBounds_toArray, List.set_cons_zero, List.set_cons_succ]
            refine takeR (fuel := 18) (i := 41) (v := .slice al L.length cl) rfl (by kernel_rfl) (by kernel_rfl) (by kernel_rfl) (fun _ _ _ h => h) (Or.inl ⟨rfl, fun W hW => by have cj : W.cell? ⟨lp, 0, none⟩ = some (.slice al L.length cl) := (hD.p.below hW hlp).cell 0; go_simp⟩) hS4 ?_
            simp only [Act.put, List.setIfInBounds_toArray, List.set_cons_zero, List.set_cons_succ]
            refine consR (fuel := 17) (i := 40) rfl (by kernel_rfl) (fun K hK => ?_)
            rw [if_pos (by rfl)]
            go_simp
            refine (C22.out v4 hS4).mono ?_
            rintro e v5 ⟨a7, c7, rfl, HZ7⟩
            have hC := HZ7.out.2
            refine hK.out _ _ (hS4.trans (hC.mono hS4.size)) (fun hS5 => ?_)
            have hT5 : Below v4.heap.size v4 v5 := hC
            clear hK hC
            try simp only [Act.put, List.setIfInBounds_toArray, List.set_cons_zero, List.set_cons_succ]
            refine consR (fuel := 16) (i := 42) rfl (by kernel_rfl) (fun K hK => ?_)
            rw [if_pos (by rfl)]
            go_simp
            refine (C23.out v5 hS5).mono ?_
            rintro e v6 ⟨a8, c8, rfl, HZ8⟩
            have hC := HZ8.out.2
            refine hK.out _ _ (hS5.trans (hC.mono hS5.size)) (fun hS6 => ?_)
            have hT6 : Below v5.heap.size v5 v6 := hC
            clear hK hC
            try simp only [Act.put, List.setIfInBounds_toArray, List.set_cons_zero, List.set_cons_succ]
            refine consR (fuel := 15) (i := 43) rfl (by kernel_rfl) (fun K hK => ?_)
            rw [if_pos (by rfl)]
            go_simp
            refine (rtexts (cmp L) hcl a7 c7 a8 c8 v6 (HZ7.out.1.below hT6) HZ8.out.1).mono ?_
            rintro e v7 ⟨rfl, hC⟩
            refine hK.out _ _ (hS6.trans (hC.mono hS6.size)) (fun hS7 => ?_)
            have hT7 : Below v6.heap.size v6 v7 := hC
            clear hK hC
            try simp only [Act.put, List.setIfInBounds_toArray, List.set_cons_zero, List.set_cons_succ]
            refine takeR (fuel := 14) (i := 44) (v := .bool true) rfl (by kernel_rfl) (by kernel_rfl) (by kernel_rfl) (fun _ _ _ h => h) (Or.inl ⟨rfl, fun W hW => by go_simp⟩) hS7 ?_
            simp only [Act.put, List.setIfInBounds_toArray, List.set_cons_zero, List.set_cons_succ]
            refine takeR (fuel := 13) (i := 45) (v := .bool true) rfl (by kernel_rfl) (by kernel_rfl) (by kernel_rfl) (fun _ _ _ h => h) (Or.inl ⟨rfl, fun W hW => by go_simp⟩) hS7 ?_
            simp only [Act.put, List.setIfInBounds_toArray, List.set_cons_zero, List.set_cons_succ]
            refine takeR (fuel := 12) (i := 46) (v := .pointer (some ⟨c, 0, none⟩)) rfl (by kernel_rfl) (by kernel_rfl) (by kernel_rfl) (fun _ _ _ h => h) (Or.inl ⟨rfl, fun W hW => by go_simp⟩) hS7 ?_
            simp only [Act.put, List.setIfInBounds_toArray, List.set_cons_zero, List.set_cons_succ]
            refine takeR (fuel := 11) (i := 47) (v := .string th) rfl (by kernel_rfl) (by kernel_rfl) (by kernel_rfl) (fun _ _ _ h => h) (Or.inl ⟨rfl, fun W hW => by go_simp⟩) hS7 ?_
            simp only [Act.put, List.setIfInBounds_toArray, List.set_cons_zero, List.set_cons_succ]
            refine takeR (fuel := 10) (i := 49) (v := .slice al L.length cl) rfl (by kernel_rfl) (by kernel_rfl) (by kernel_rfl) (fun _ _ _ h => h) (Or.inl ⟨rfl, fun W hW => by have cj : W.cell? ⟨lp, 0, none⟩ = some (.slice al L.length cl) := (hD.p.below hW hlp).cell 0; go_simp⟩) hS7 ?_
            simp only [Act.put, List.setIfInBounds_toArray, List.set_cons_zero, List.set_cons_succ]
            refine takeR (fuel := 9) (i := 50) (v := .string th) rfl (by kernel_rfl) (by kernel_rfl) (by kernel_rfl) (fun _ _ _ h => h) (Or.inl ⟨rfl, fun W hW => by go_simp⟩) hS7 ?_
            simp only [Act.put, List.setIfInBounds_toArray, List.set_cons_zero, List.set_cons_succ]
            refine consR (fuel := 8) (i := 48) rfl (by kernel_rfl) (fun K hK => ?_)
            rw [if_pos (by rfl)]
            go_simp
            refine (C24.out v7 hS7).mono ?_
            rintro e v8 ⟨rfl, hC⟩
            refine hK.out _ _ (hS7.trans (hC.mono hS7.size)) (fun hS8 => ?_)
            have hT8 : Below v7.heap.size v7 v8 := hC
            clear hK hC
            try simp only [Act.put, List.setIfInBounds_toArray, List.set_cons_zero, List.set_cons_succ]
            refine consR (fuel := 7) (i := 51) rfl (by kernel_rfl) (fun K hK => ?_)
            rw [if_pos (by rfl)]
            go_simp
            refine (C25.out v8 hS8).mono ?_
            rintro e v9 ⟨rfl, hC⟩
            refine hK.out _ _ (hS8.trans (hC.mono hS8.size)) (fun hS9 => ?_)
            have hT9 : Below v8.heap.size v8 v9 := hC
            clear hK hC
            try simp only [Act.put, List.setIfInBounds_toArray, List.set_cons_zero, List.set_cons_succ]
            refine takeR (fuel := 6) (i := 52) (v := .int .i64 OV) rfl (by kernel_rfl) (by kernel_rfl) (by kernel_rfl) (fun _ _ _ h => h) (Or.inl ⟨rfl, fun W hW => by go_simp⟩) hS9 ?_
            simp only [Act.put, List.setIfInBounds_toArray, List.set_cons_zero, List.set_cons_succ]
            refine takeR (fuel := 5) (i := 53) (v := .bool true) rfl (by kernel_rfl) (by kernel_rfl) (by kernel_rfl) (fun _ _ _ h => h) (Or.inl ⟨rfl, fun W hW => by go_simp⟩) hS9 ?_
            simp only [Act.put, List.setIfInBounds_toArray, List.set_cons_zero, List.set_cons_succ]
            refine takeR (fuel := 4) (i := 54) (v := .bool true) rfl (by kernel_rfl) (by kernel_rfl) (by kernel_rfl) (fun _ _ _ h => h) (Or.inl ⟨rfl, fun W hW => by go_simp⟩) hS9 ?_
            simp only [Act.put, List.setIfInBounds_toArray, List.set_cons_zero, List.set_cons_succ]
            refine takeR (fuel := 3) (i := 55) (v := .bool true) rfl (by kernel_rfl) (by kernel_rfl) (by kernel_rfl) (fun _ _ _ h => h) (Or.inl ⟨rfl, fun W hW => by go_simp⟩) hS9 ?_
            simp only [Act.put, List.setIfInBounds_toArray, List.set_cons_zero, List.set_cons_succ]
            refine consR (fuel := 2) (i := 56) rfl (by kernel_rfl) (fun K hK => ?_)
            rw [if_pos (by rfl)]
            go_simp
            refine (xcawake v9).mono ?_
            rintro e v10 ⟨rfl, hC⟩
            refine hK.out _ _ (hS9.trans (hC.mono hS9.size)) (fun hS10 => ?_)
            have hT10 : Below v9.heap.size v9 v10 := hC
            clear hK hC
            try simp only [Act.put, List.setIfInBounds_toArray, List.set_cons_zero, List.set_cons_succ]
            refine takeR (fuel := 1) (i := 57) (v := .bool true) rfl (by kernel_rfl) (by kernel_rfl) (by kernel_rfl) (fun _ _ _ h => h) (Or.inl ⟨rfl, fun W hW => by go_simp⟩) hS10 ?_
            simp only [Act.put, List.setIfInBounds_toArray, List.set_cons_zero, List.set_cons_succ]
            refine takeR (fuel := 0) (i := 58) (v := .bool true) rfl (by kernel_rfl) (by kernel_rfl) (by kernel_rfl) (fun _ _ _ h => h) (Or.inl ⟨rfl, fun W hW => by go_simp⟩) hS10 ?_
            simp only [Act.put, List.setIfInBounds_toArray, List.set_cons_zero, List.set_cons_succ]
            refine wpAnyH_done (by kernel_rfl) ?_ _
            go_wp2_with fail
            go_ret
            exact ⟨rfl, hD.b.trans (hS10.mono hD.b.size)⟩
      · have hkz : ¬ (k : Int) < (xs.length : Int) := by omega
        have HG : Hid (Num.Good L) := HR.out.1
        have hLn : L.length ≤ 3280 := by have := HR.out.2.1; omega
        obtain ⟨w8, hw8⟩ : ∃ w8, w8 = wr.alloc (.cells #[.int .i64 0, .int .i64 0, .int .i64 0, .int .i64 0] 37) := ⟨_, rfl⟩
        have HW8 : Hid (wr.alloc (.cells #[.int .i64 0, .int .i64 0, .int .i64 0, .int .i64 0] 37) = w8) := hw8.symm
        have HD8 : Hid (Ds w w8 c q m lp L al cl ∧ Bx w8 wr.heap.size #[.int .i64 0, .int .i64 0, .int .i64 0, .int .i64 0] 37) := by
          refine ⟨?_, ?_⟩
          · rw [hw8]; exact HR.out.2.2.below ((Below.refl _ wr).alloc (Nat.le_refl _) _)
          · rw [hw8]; exact Bx.new wr _ _
        have HG12 : Hid (w.heap.size ≤ wr.heap.size) := HR.out.2.2.b.size
        clear hw8 HR HA
        go_wp2_with fail
        rw [HW8.out]
        clear HW8
        generalize wr.heap.size = g12 at *
        have HGT : Hid (∀ W (b : Int), Ds w W c q m lp L al cl → Calls Try.prog 15 #[.slice al L.length cl, .agg #[.int .i64 mem, .int .i64 b, .string th]] W fun e w' => e = .returned (.int .i64 (Num.get L (mem, b, th.toList))) ∧ Below W.heap.size W w') := fun W b hW => rget L (by omega) al cl mem b th W hW.r
        obtain ⟨G1, hG1⟩ : ∃ G, G = Num.get L (mem, 1, th.toList) := ⟨_, rfl⟩
        obtain ⟨G2, hG2⟩ : ∃ G, G = Num.get L (mem, 2, th.toList) := ⟨_, rfl⟩
        obtain ⟨G3, hG3⟩ : ∃ G, G = Num.get L (mem, 3, th.toList) := ⟨_, rfl⟩
        obtain ⟨G4, hG4⟩ : ∃ G, G = Num.get L (mem, 4, th.toList) := ⟨_, rfl⟩
        have HPO : Hid (∀ W, Ds w W c q m lp L al cl → Calls Try.prog 16 #[.pointer (some ⟨c, 0, none⟩), .int .i64 mem, .string th] W fun e w' => e = .returned (.agg #[.int .i64 G1, .int .i64 G2, .int .i64 G3, .int .i64 G4]) ∧ Below W.heap.size W w') := fun W hW => by rw [hG1, hG2, hG3, hG4]; exact xpos c q m L mem th (fun b h1 h2 => HWa.out b h1 h2) W hW.x
        have HST : Hid (∀ (W : World) (b i : Nat) (V : Int) (v0 v1 v2 v3 : Int), Ds w W c q m lp L al cl → Bx W g12 #[.int .i64 v0, .int .i64 v1, .int .i64 v2, .int .i64 v3] 37 → i < 4 → ∀ G : Int, G = Num.get L (mem, (i : Int) + 1, th.toList) → Calls Try.prog 15 #[.slice al L.length cl, .agg #[.int .i64 mem, .int .i64 ((i : Int) + 1), .string th]] W fun e w' => e = .returned (.int .i64 G) ∧ w'.cell? ⟨g12, 0, none⟩ = some (.int .i64 v0) ∧ w'.cell? ⟨g12, 1, none⟩ = some (.int .i64 v1) ∧ w'.cell? ⟨g12, 2, none⟩ = some (.int .i64 v2) ∧ w'.cell? ⟨g12, 3, none⟩ = some (.int .i64 v3) ∧ w'.frozen? ⟨g12, 0, none⟩ = false ∧ w'.frozen? ⟨g12, 1, none⟩ = false ∧ w'.frozen? ⟨g12, 2, none⟩ = false ∧ w'.frozen? ⟨g12, 3, none⟩ = false ∧ Hid (Ds w (w'.setCell ⟨g12, i, none⟩ (.int .i64 G)) c q m lp L al cl ∧ Bx (w'.setCell ⟨g12, i, none⟩ (.int .i64 G)) g12 (#[.int .i64 v0, .int .i64 v1, .int .i64 v2, .int .i64 v3].setIfInBounds i (.int .i64 G)) 37)) := fun W b i V v0 v1 v2 v3 hW hX hi G hG => (HGT.out W _ hW).mono fun e w' kk => by
          have hX' := hX.below kk.2 hX.lt
          exact ⟨by rw [hG]; exact kk.1, hX'.cell 0, hX'.cell 1, hX'.cell 2, hX'.cell 3, hX'.froz 0, hX'.froz 1, hX'.froz 2, hX'.froz 3, ds_arr (hW.below kk.2) hX' i G HG12.out, hX'.setc i _⟩
        go_loopw [13] (fun i w9 => ∃ k2 : Nat, k2 ≤ 4 ∧ i = .int .i64 k2 ∧ Hid (Ds w w9 c q m lp L al cl ∧ Bx w9 g12 #[.int .i64 (if 0 < k2 then G1 else 0), .int .i64 (if 1 < k2 then G2 else 0), .int .i64 (if 2 < k2 then G3 else 0), .int .i64 (if 3 < k2 then G4 else 0)] 37))
          (fun i _ => 4 - (intOf i).toNat)
        case atStart => exact ⟨0, by omega, rfl, HD8.out⟩
        case round =>
          obtain ⟨k2, hk2, rfl, HR2⟩ := hrel
          clear HD8
          have hlpc : wr.cell? ⟨lp, 0, none⟩ = some (.slice al L.length cl) := HR2.out.1.p.cell 0
          rcases k2 with _ | _ | _ | _ | k2
          · have HX : Hid (Bx wr g12 #[.int .i64 0, .int .i64 0, .int .i64 0, .int .i64 0] 37) := HR2.out.2
            have HC : Hid (Calls Try.prog 15 #[.slice al L.length cl, .agg #[.int .i64 mem, .int .i64 1, .string th]] wr fun e w' => e = .returned (.int .i64 G1) ∧ w'.cell? ⟨g12, 0, none⟩ = some (.int .i64 0) ∧ w'.cell? ⟨g12, 1, none⟩ = some (.int .i64 0) ∧ w'.cell? ⟨g12, 2, none⟩ = some (.int .i64 0) ∧ w'.cell? ⟨g12, 3, none⟩ = some (.int .i64 0) ∧ w'.frozen? ⟨g12, 0, none⟩ = false ∧ w'.frozen? ⟨g12, 1, none⟩ = false ∧ w'.frozen? ⟨g12, 2, none⟩ = false ∧ w'.frozen? ⟨g12, 3, none⟩ = false ∧ Hid (Ds w (w'.setCell ⟨g12, 0, none⟩ (.int .i64 G1)) c q m lp L al cl ∧ Bx (w'.setCell ⟨g12, 0, none⟩ (.int .i64 G1)) g12 #[.int .i64 G1, .int .i64 0, .int .i64 0, .int .i64 0] 37)) := HST.out wr 0 0 0 _ _ _ _ HR2.out.1 HX.out (by omega) G1 hG1
            clear HR2 HX HST HPO HGT hG1 hG2 hG3 hG4
            go_wp2_with (go_at_call 15; refine HC.out.mono ?_; rintro e w9 ⟨rfl, q0, q1, q2, q3, f0, f1, f2, f3, HZ⟩)
            go_roundw
            case rel => exact ⟨1, by omega, by simp, HZ.out⟩
            case measure => simp [intOf]
          · have HX : Hid (Bx wr g12 #[.int .i64 G1, .int .i64 0, .int .i64 0, .int .i64 0] 37) := HR2.out.2
            have HC : Hid (Calls Try.prog 15 #[.slice al L.length cl, .agg #[.int .i64 mem, .int .i64 2, .string th]] wr fun e w' => e = .returned (.int .i64 G2) ∧ w'.cell? ⟨g12, 0, none⟩ = some (.int .i64 G1) ∧ w'.cell? ⟨g12, 1, none⟩ = some (.int .i64 0) ∧ w'.cell? ⟨g12, 2, none⟩ = some (.int .i64 0) ∧ w'.cell? ⟨g12, 3, none⟩ = some (.int .i64 0) ∧ w'.frozen? ⟨g12, 0, none⟩ = false ∧ w'.frozen? ⟨g12, 1, none⟩ = false ∧ w'.frozen? ⟨g12, 2, none⟩ = false ∧ w'.frozen? ⟨g12, 3, none⟩ = false ∧ Hid (Ds w (w'.setCell ⟨g12, 1, none⟩ (.int .i64 G2)) c q m lp L al cl ∧ Bx (w'.setCell ⟨g12, 1, none⟩ (.int .i64 G2)) g12 #[.int .i64 G1, .int .i64 G2, .int .i64 0, .int .i64 0] 37)) := HST.out wr 0 1 0 _ _ _ _ HR2.out.1 HX.out (by omega) G2 hG2
            clear HR2 HX HST HPO HGT hG1 hG2 hG3 hG4
            go_wp2_with (go_at_call 15; refine HC.out.mono ?_; rintro e w9 ⟨rfl, q0, q1, q2, q3, f0, f1, f2, f3, HZ⟩)
            go_roundw
            case rel => exact ⟨2, by omega, by simp, HZ.out⟩
            case measure => simp [intOf]
          · have HX : Hid (Bx wr g12 #[.int .i64 G1, .int .i64 G2, .int .i64 0, .int .i64 0] 37) := HR2.out.2
            have HC : Hid (Calls Try.prog 15 #[.slice al L.length cl, .agg #[.int .i64 mem, .int .i64 3, .string th]] wr fun e w' => e = .returned (.int .i64 G3) ∧ w'.cell? ⟨g12, 0, none⟩ = some (.int .i64 G1) ∧ w'.cell? ⟨g12, 1, none⟩ = some (.int .i64 G2) ∧ w'.cell? ⟨g12, 2, none⟩ = some (.int .i64 0) ∧ w'.cell? ⟨g12, 3, none⟩ = some (.int .i64 0) ∧ w'.frozen? ⟨g12, 0, none⟩ = false ∧ w'.frozen? ⟨g12, 1, none⟩ = false ∧ w'.frozen? ⟨g12, 2, none⟩ = false ∧ w'.frozen? ⟨g12, 3, none⟩ = false ∧ Hid (Ds w (w'.setCell ⟨g12, 2, none⟩ (.int .i64 G3)) c q m lp L al cl ∧ Bx (w'.setCell ⟨g12, 2, none⟩ (.int .i64 G3)) g12 #[.int .i64 G1, .int .i64 G2, .int .i64 G3, .int .i64 0] 37)) := HST.out wr 0 2 0 _ _ _ _ HR2.out.1 HX.out (by omega) G3 hG3
            clear HR2 HX HST HPO HGT hG1 hG2 hG3 hG4
            go_wp2_with (go_at_call 15; refine HC.out.mono ?_; rintro e w9 ⟨rfl, q0, q1, q2, q3, f0, f1, f2, f3, HZ⟩)
            go_roundw
            case rel => exact ⟨3, by omega, by simp, HZ.out⟩
            case measure => simp [intOf]
          · have HX : Hid (Bx wr g12 #[.int .i64 G1, .int .i64 G2, .int .i64 G3, .int .i64 0] 37) := HR2.out.2
            have HC : Hid (Calls Try.prog 15 #[.slice al L.length cl, .agg #[.int .i64 mem, .int .i64 4, .string th]] wr fun e w' => e = .returned (.int .i64 G4) ∧ w'.cell? ⟨g12, 0, none⟩ = some (.int .i64 G1) ∧ w'.cell? ⟨g12, 1, none⟩ = some (.int .i64 G2) ∧ w'.cell? ⟨g12, 2, none⟩ = some (.int .i64 G3) ∧ w'.cell? ⟨g12, 3, none⟩ = some (.int .i64 0) ∧ w'.frozen? ⟨g12, 0, none⟩ = false ∧ w'.frozen? ⟨g12, 1, none⟩ = false ∧ w'.frozen? ⟨g12, 2, none⟩ = false ∧ w'.frozen? ⟨g12, 3, none⟩ = false ∧ Hid (Ds w (w'.setCell ⟨g12, 3, none⟩ (.int .i64 G4)) c q m lp L al cl ∧ Bx (w'.setCell ⟨g12, 3, none⟩ (.int .i64 G4)) g12 #[.int .i64 G1, .int .i64 G2, .int .i64 G3, .int .i64 G4] 37)) := HST.out wr 0 3 0 _ _ _ _ HR2.out.1 HX.out (by omega) G4 hG4
            clear HR2 HX HST HPO HGT hG1 hG2 hG3 hG4
            go_wp2_with (go_at_call 15; refine HC.out.mono ?_; rintro e w9 ⟨rfl, q0, q1, q2, q3, f0, f1, f2, f3, HZ⟩)
            go_roundw
            case rel => exact ⟨4, by omega, by simp, HZ.out⟩
            case measure => simp [intOf]
          · obtain rfl : k2 = 0 := by omega
            have HX : Hid (Bx wr g12 #[.int .i64 G1, .int .i64 G2, .int .i64 G3, .int .i64 G4] 37) := HR2.out.2
            have HP2 : Hid (Calls Try.prog 16 #[.pointer (some ⟨c, 0, none⟩), .int .i64 mem, .string th] wr fun e w' => e = .returned (.agg #[.int .i64 G1, .int .i64 G2, .int .i64 G3, .int .i64 G4]) ∧ ∃ wz, w'.alloc (.cells #[.int .i64 G1, .int .i64 G2, .int .i64 G3, .int .i64 G4] 42) = wz ∧ Hid (Ds w wz c q m lp L al cl ∧ Bx wz g12 #[.int .i64 G1, .int .i64 G2, .int .i64 G3, .int .i64 G4] 37 ∧ Bx wz w'.heap.size #[.int .i64 G1, .int .i64 G2, .int .i64 G3, .int .i64 G4] 42)) := (HPO.out wr HR2.out.1).mono fun e w' kk => by
              have hb : Below wr.heap.size wr (w'.alloc (.cells #[.int .i64 G1, .int .i64 G2, .int .i64 G3, .int .i64 G4] 42)) := kk.2.alloc kk.2.size _
              exact ⟨kk.1, _, rfl, HR2.out.1.below hb, HX.out.below hb HX.out.lt, Bx.new w' _ _⟩
            clear HR2 HX HST HPO HGT hG1 hG2 hG3 hG4 hlpc
            go_upto_region 14 with (go_at_call 16; refine HP2.out.mono ?_; rintro e w9 ⟨rfl, wz, hwz, HZ⟩; clear HP2)
            try rw [hwz]
            clear hwz
            generalize w9.heap.size = g14 at *
            obtain ⟨hD, hX12, hX14⟩ := HZ.out
            have hl12 := hX12.lt
            have hl14 := hX14.lt
            have hlp := hD.p.lt
            have C17 : Hid (∀ W, Calls Try.prog 17 #[.agg #[.int .i64 G1, .int .i64 G2, .int .i64 G3, .int .i64 G4]] W fun e w' => e = .returned (.int .i64 (wrap64 (wrap64 (wrap64 (G1 + G2) + G3) + G4))) ∧ Below W.heap.size W w') := fun W => xpall G1 G2 G3 G4 W
            have C19 : Hid (∀ W, Below wz.heap.size wz W → Calls Try.prog 19 #[.pointer (some ⟨c, 0, none⟩), .int .i64 mem, .int .i64 book] W fun e w' => ∃ a5 c5, e = .returned (.slice a5 (lotsB mem book L).length c5) ∧ Hid (Lts w' a5 (lotsB mem book L) ∧ Below W.heap.size W w')) := fun W hW => (xclots c q m L (by omega) (good_len HG.out) mem book W (hD.below hW).x).mono fun e w' kk => lots_rw kk
            have C20 : Hid (∀ W, Below wz.heap.size wz W → Calls Try.prog 20 #[.slice al L.length cl, .int .i64 mem, .int .i64 book] W fun e w' => ∃ a5 c5, e = .returned (.slice a5 (lotsB mem book L).length c5) ∧ Hid (Lts w' a5 (lotsB mem book L) ∧ Below W.heap.size W w')) := fun W hW => (rlotsB L (by omega) al cl mem book W (hD.below hW).r).mono fun e w' kk => lots_rw kk
            have C22 : Hid (∀ W, Below wz.heap.size wz W → Calls Try.prog 22 #[.pointer (some ⟨c, 0, none⟩)] W fun e w' => ∃ a6 c6, e = .returned (.slice a6 (cmp L).length c6) ∧ Hid (Tx w' a6 (cmp L) ∧ Below W.heap.size W w')) := fun W hW => xcthings c q m L (by omega) (good_len HG.out) W (hD.below hW).x
            have C23 : Hid (∀ W, Below wz.heap.size wz W → Calls Try.prog 23 #[.slice al L.length cl] W fun e w' => ∃ a7 c7, e = .returned (.slice a7 (cmp L).length c7) ∧ Hid (Tx w' a7 (cmp L) ∧ Below W.heap.size W w')) := fun W hW => (rthings L (by omega) al cl W (hD.below hW).r).mono fun e w' hh => by
              obtain ⟨v, rfl, ho, hb⟩ := hh
              obtain ⟨a7, c7, rfl, _, ht⟩ := own_rw strc_len ho rfl
              exact ⟨a7, c7, rfl, ht, hb⟩
            have C24 : Hid (∀ W, Below wz.heap.size wz W → Calls Try.prog 24 #[.pointer (some ⟨c, 0, none⟩), .string th] W fun e w' => e = .returned (.int .i64 (wrap64 (-(wrap64 (Num.hld 0 th.toList L))))) ∧ Below W.heap.size W w') := fun W hW => xcout c q m L th W (hD.below hW).x
            have C25 : Hid (∀ W, Below wz.heap.size wz W → Calls Try.prog 25 #[.slice al L.length cl, .int .i64 0, .string th] W fun e w' => e = .returned (.int .i64 (wrap64 (Num.hld 0 th.toList L))) ∧ Below W.heap.size W w') := fun W hW => (rheld L (by omega) al cl 0 th W (hD.below hW).r).mono fun e w' kk => ⟨kk.1, by rw [← kk.2]; exact Below.refl _ _⟩
            have hlotl : (lotsB mem book L).length ≤ 1000000 := by
              have := lots_len mem book L
              unfold lotsB
              split
              · simp
              · omega
            have hcl : (cmp L).length ≤ 1000000 := by have := cmp_len L; omega
            have hou2 : IntKind.i64.wrap (-(wrap64 (Num.hld 0 th.toList L))) = wrap64 (-(wrap64 (Num.hld 0 th.toList L))) := i64_wrap _
            generalize wrap64 (-(wrap64 (Num.hld 0 th.toList L))) = OV at *
            have hs1 : IntKind.i64.wrap (G1 + G2) = wrap64 (G1 + G2) := i64_wrap _
            have hs2 : IntKind.i64.wrap (wrap64 (G1 + G2) + G3) = wrap64 (wrap64 (G1 + G2) + G3) := i64_wrap _
            have hs3 : IntKind.i64.wrap (wrap64 (wrap64 (G1 + G2) + G3) + G4) = wrap64 (wrap64 (wrap64 (G1 + G2) + G3) + G4) := i64_wrap _
            generalize wrap64 (wrap64 (wrap64 (G1 + G2) + G3) + G4) = A3 at *
            generalize wrap64 (wrap64 (G1 + G2) + G3) = A2 at *
            generalize wrap64 (G1 + G2) = A1 at *
            have heq := eql42
            refine wp_region_held (S := fun W => Below wz.heap.size wz W) (by kernel_rfl) ?_
            change wpAnyH _ _ _ _ _ 59 #[false, false, false, false, false, false, false, false, false, false, false, false, false, false, false, false, false, false, false, false, false, false, false, false, false, false, false, false, false, false, false, false, false, false, false, false, false, false, false, false, false, false, false, false, false, false, false, false, false, false, false, false, false, false, false, false, false, false, false] _ wz.drew
            have hS0 : Below wz.heap.size wz wz.drew := ⟨rfl, rfl, rfl, Nat.le_refl _, fun _ _ => rfl⟩
            obtain ⟨v0, hv0⟩ : ∃ v, v = wz.drew := ⟨_, rfl⟩
            rw [← hv0] at hS0 ⊢
            clear hv0
            refine takeR (fuel := 58) (i := 0) (v := .agg #[.int .i64 G1, .int .i64 G2, .int .i64 G3, .int .i64 G4]) rfl (by kernel_rfl) (by kernel_rfl) (by kernel_rfl) (fun _ _ _ h => h) (Or.inl ⟨rfl, fun W hW => exl _ _ _ _ rfl _ _ rfl (load42p W g14 _ _ _ _ ((hX14.below hW hl14).cell 0) ((hX14.below hW hl14).cell 1) ((hX14.below hW hl14).cell 2) ((hX14.below hW hl14).cell 3))⟩) hS0 ?_
            simp only [Act.put, List.setIfInBounds_toArray, List.set_cons_zero, List.set_cons_succ]
            refine takeR (fuel := 57) (i := 1) (v := .pointer (some ⟨g12, 0, none⟩)) rfl (by kernel_rfl) (by kernel_rfl) (by kernel_rfl) (fun _ _ _ h => h) (Or.inl ⟨rfl, fun W hW => by go_simp⟩) hS0 ?_
            simp only [Act.put, List.setIfInBounds_toArray, List.set_cons_zero, List.set_cons_succ]
            refine takeR (fuel := 56) (i := 2) (v := .int .i64 G1) rfl (by kernel_rfl) (by kernel_rfl) (by kernel_rfl) (fun _ _ _ h => h) (Or.inl ⟨rfl, fun W hW => by have cj : W.cell? ⟨g12, 0, none⟩ = some (.int .i64 G1) := (hX12.below hW hl12).cell 0; go_simp⟩) hS0 ?_
            simp only [Act.put, List.setIfInBounds_toArray, List.set_cons_zero, List.set_cons_succ]
            refine takeR (fuel := 55) (i := 3) (v := .pointer (some ⟨g12, 1, none⟩)) rfl (by kernel_rfl) (by kernel_rfl) (by kernel_rfl) (fun _ _ _ h => h) (Or.inl ⟨rfl, fun W hW => by go_simp⟩) hS0 ?_
            simp only [Act.put, List.setIfInBounds_toArray, List.set_cons_zero, List.set_cons_succ]
            refine takeR (fuel := 54) (i := 4) (v := .int .i64 G2) rfl (by kernel_rfl) (by kernel_rfl) (by kernel_rfl) (fun _ _ _ h => h) (Or.inl ⟨rfl, fun W hW => by have cj : W.cell? ⟨g12, 1, none⟩ = some (.int .i64 G2) := (hX12.below hW hl12).cell 1; go_simp⟩) hS0 ?_
            simp only [Act.put, List.setIfInBounds_toArray, List.set_cons_zero, List.set_cons_succ]
            refine takeR (fuel := 53) (i := 5) (v := .pointer (some ⟨g12, 2, none⟩)) rfl (by kernel_rfl) (by kernel_rfl) (by kernel_rfl) (fun _ _ _ h => h) (Or.inl ⟨rfl, fun W hW => by go_simp⟩) hS0 ?_
            simp only [Act.put, List.setIfInBounds_toArray, List.set_cons_zero, List.set_cons_succ]
            refine takeR (fuel := 52) (i := 6) (v := .int .i64 G3) rfl (by kernel_rfl) (by kernel_rfl) (by kernel_rfl) (fun _ _ _ h => h) (Or.inl ⟨rfl, fun W hW => by have cj : W.cell? ⟨g12, 2, none⟩ = some (.int .i64 G3) := (hX12.below hW hl12).cell 2; go_simp⟩) hS0 ?_
            simp only [Act.put, List.setIfInBounds_toArray, List.set_cons_zero, List.set_cons_succ]
            refine takeR (fuel := 51) (i := 7) (v := .pointer (some ⟨g12, 3, none⟩)) rfl (by kernel_rfl) (by kernel_rfl) (by kernel_rfl) (fun _ _ _ h => h) (Or.inl ⟨rfl, fun W hW => by go_simp⟩) hS0 ?_
            simp only [Act.put, List.setIfInBounds_toArray, List.set_cons_zero, List.set_cons_succ]
            refine takeR (fuel := 50) (i := 8) (v := .int .i64 G4) rfl (by kernel_rfl) (by kernel_rfl) (by kernel_rfl) (fun _ _ _ h => h) (Or.inl ⟨rfl, fun W hW => by have cj : W.cell? ⟨g12, 3, none⟩ = some (.int .i64 G4) := (hX12.below hW hl12).cell 3; go_simp⟩) hS0 ?_
            simp only [Act.put, List.setIfInBounds_toArray, List.set_cons_zero, List.set_cons_succ]
            refine takeR (fuel := 49) (i := 9) (v := .agg #[.int .i64 G1, .int .i64 G2, .int .i64 G3, .int .i64 G4]) rfl (by kernel_rfl) (by kernel_rfl) (by kernel_rfl) (fun _ _ _ h => h) (Or.inl ⟨rfl, fun W hW => by go_simp⟩) hS0 ?_
            simp only [Act.put, List.setIfInBounds_toArray, List.set_cons_zero, List.set_cons_succ]
            refine takeR (fuel := 48) (i := 10) (v := .bool true) rfl (by kernel_rfl) (by kernel_rfl) (by kernel_rfl) (fun _ _ _ h => h) (Or.inl ⟨rfl, fun W hW => by go_simp⟩) hS0 ?_
            simp only [Act.put, List.setIfInBounds_toArray, List.set_cons_zero, List.set_cons_succ]
            refine takeR (fuel := 47) (i := 11) (v := .bool true) rfl (by kernel_rfl) (by kernel_rfl) (by kernel_rfl) (fun _ _ _ h => h) (Or.inl ⟨rfl, fun W hW => by go_simp⟩) hS0 ?_
            simp only [Act.put, List.setIfInBounds_toArray, List.set_cons_zero, List.set_cons_succ]
            refine takeR (fuel := 46) (i := 12) (v := .agg #[.int .i64 G1, .int .i64 G2, .int .i64 G3, .int .i64 G4]) rfl (by kernel_rfl) (by kernel_rfl) (by kernel_rfl) (fun _ _ _ h => h) (Or.inl ⟨rfl, fun W hW => exl _ _ _ _ rfl _ _ rfl (load42p W g14 _ _ _ _ ((hX14.below hW hl14).cell 0) ((hX14.below hW hl14).cell 1) ((hX14.below hW hl14).cell 2) ((hX14.below hW hl14).cell 3))⟩) hS0 ?_
            simp only [Act.put, List.setIfInBounds_toArray, List.set_cons_zero, List.set_cons_succ]
            refine takeR (fuel := 45) (i := 14) (v := .pointer (some ⟨g12, 0, none⟩)) rfl (by kernel_rfl) (by kernel_rfl) (by kernel_rfl) (fun _ _ _ h => h) (Or.inl ⟨rfl, fun W hW => by go_simp⟩) hS0 ?_
            simp only [Act.put, List.setIfInBounds_toArray, List.set_cons_zero, List.set_cons_succ]
            refine takeR (fuel := 44) (i := 15) (v := .int .i64 G1) rfl (by kernel_rfl) (by kernel_rfl) (by kernel_rfl) (fun _ _ _ h => h) (Or.inl ⟨rfl, fun W hW => by have cj : W.cell? ⟨g12, 0, none⟩ = some (.int .i64 G1) := (hX12.below hW hl12).cell 0; go_simp⟩) hS0 ?_
            simp only [Act.put, List.setIfInBounds_toArray, List.set_cons_zero, List.set_cons_succ]
            refine takeR (fuel := 43) (i := 16) (v := .pointer (some ⟨g12, 1, none⟩)) rfl (by kernel_rfl) (by kernel_rfl) (by kernel_rfl) (fun _ _ _ h => h) (Or.inl ⟨rfl, fun W hW => by go_simp⟩) hS0 ?_
            simp only [Act.put, List.setIfInBounds_toArray, List.set_cons_zero, List.set_cons_succ]
            refine takeR (fuel := 42) (i := 17) (v := .int .i64 G2) rfl (by kernel_rfl) (by kernel_rfl) (by kernel_rfl) (fun _ _ _ h => h) (Or.inl ⟨rfl, fun W hW => by have cj : W.cell? ⟨g12, 1, none⟩ = some (.int .i64 G2) := (hX12.below hW hl12).cell 1; go_simp⟩) hS0 ?_
            simp only [Act.put, List.setIfInBounds_toArray, List.set_cons_zero, List.set_cons_succ]
            refine takeR (fuel := 41) (i := 18) (v := .int .i64 A1) rfl (by kernel_rfl) (by kernel_rfl) (by kernel_rfl) (fun _ _ _ h => h) (Or.inl ⟨rfl, fun W hW => by go_simp⟩) hS0 ?_
            simp only [Act.put, List.setIfInBounds_toArray, List.set_cons_zero, List.set_cons_succ]
            refine takeR (fuel := 40) (i := 19) (v := .pointer (some ⟨g12, 2, none⟩)) rfl (by kernel_rfl) (by kernel_rfl) (by kernel_rfl) (fun _ _ _ h => h) (Or.inl ⟨rfl, fun W hW => by go_simp⟩) hS0 ?_
            simp only [Act.put, List.setIfInBounds_toArray, List.set_cons_zero, List.set_cons_succ]
            refine takeR (fuel := 39) (i := 20) (v := .int .i64 G3) rfl (by kernel_rfl) (by kernel_rfl) (by kernel_rfl) (fun _ _ _ h => h) (Or.inl ⟨rfl, fun W hW => by have cj : W.cell? ⟨g12, 2, none⟩ = some (.int .i64 G3) := (hX12.below hW hl12).cell 2; go_simp⟩) hS0 ?_
            simp only [Act.put, List.setIfInBounds_toArray, List.set_cons_zero, List.set_cons_succ]
            refine takeR (fuel := 38) (i := 21) (v := .int .i64 A2) rfl (by kernel_rfl) (by kernel_rfl) (by kernel_rfl) (fun _ _ _ h => h) (Or.inl ⟨rfl, fun W hW => by go_simp⟩) hS0 ?_
            simp only [Act.put, List.setIfInBounds_toArray, List.set_cons_zero, List.set_cons_succ]
            refine takeR (fuel := 37) (i := 22) (v := .pointer (some ⟨g12, 3, none⟩)) rfl (by kernel_rfl) (by kernel_rfl) (by kernel_rfl) (fun _ _ _ h => h) (Or.inl ⟨rfl, fun W hW => by go_simp⟩) hS0 ?_
            simp only [Act.put, List.setIfInBounds_toArray, List.set_cons_zero, List.set_cons_succ]
            refine takeR (fuel := 36) (i := 23) (v := .int .i64 G4) rfl (by kernel_rfl) (by kernel_rfl) (by kernel_rfl) (fun _ _ _ h => h) (Or.inl ⟨rfl, fun W hW => by have cj : W.cell? ⟨g12, 3, none⟩ = some (.int .i64 G4) := (hX12.below hW hl12).cell 3; go_simp⟩) hS0 ?_
            simp only [Act.put, List.setIfInBounds_toArray, List.set_cons_zero, List.set_cons_succ]
            refine takeR (fuel := 35) (i := 24) (v := .int .i64 A3) rfl (by kernel_rfl) (by kernel_rfl) (by kernel_rfl) (fun _ _ _ h => h) (Or.inl ⟨rfl, fun W hW => by go_simp⟩) hS0 ?_
            simp only [Act.put, List.setIfInBounds_toArray, List.set_cons_zero, List.set_cons_succ]
            refine consR (fuel := 34) (i := 13) rfl (by kernel_rfl) (fun K hK => ?_)
            rw [if_pos (by rfl)]
            go_simp
            refine (C17.out v0).mono ?_
            rintro e v1 ⟨rfl, hC⟩
            refine hK.out _ _ (hS0.trans (hC.mono hS0.size)) (fun hS1 => ?_)
            have hT1 : Below v0.heap.size v0 v1 := hC
            clear hK hC
            try simp only [Act.put, List.setIfInBounds_toArray, List.set_cons_zero, List.set_cons_succ]
            refine takeR (fuel := 33) (i := 25) (v := .bool true) rfl (by kernel_rfl) (by kernel_rfl) (by kernel_rfl) (fun _ _ _ h => h) (Or.inl ⟨rfl, fun W hW => by go_simp⟩) hS1 ?_
            simp only [Act.put, List.setIfInBounds_toArray, List.set_cons_zero, List.set_cons_succ]
            refine takeR (fuel := 32) (i := 26) (v := .bool true) rfl (by kernel_rfl) (by kernel_rfl) (by kernel_rfl) (fun _ _ _ h => h) (Or.inl ⟨rfl, fun W hW => by go_simp⟩) hS1 ?_
            simp only [Act.put, List.setIfInBounds_toArray, List.set_cons_zero, List.set_cons_succ]
            refine takeR (fuel := 31) (i := 27) (v := .bool true) rfl (by kernel_rfl) (by kernel_rfl) (by kernel_rfl) (fun _ _ _ h => h) (Or.inl ⟨rfl, fun W hW => by go_simp⟩) hS1 ?_
            simp only [Act.put, List.setIfInBounds_toArray, List.set_cons_zero, List.set_cons_succ]
            refine takeR (fuel := 30) (i := 28) (v := .pointer (some ⟨c, 0, none⟩)) rfl (by kernel_rfl) (by kernel_rfl) (by kernel_rfl) (fun _ _ _ h => h) (Or.inl ⟨rfl, fun W hW => by go_simp⟩) hS1 ?_
            simp only [Act.put, List.setIfInBounds_toArray, List.set_cons_zero, List.set_cons_succ]
            refine takeR (fuel := 29) (i := 29) (v := .int .i64 mem) rfl (by kernel_rfl) (by kernel_rfl) (by kernel_rfl) (fun _ _ _ h => h) (Or.inl ⟨rfl, fun W hW => by go_simp⟩) hS1 ?_
            simp only [Act.put, List.setIfInBounds_toArray, List.set_cons_zero, List.set_cons_succ]
            refine takeR (fuel := 28) (i := 30) (v := .int .i64 book) rfl (by kernel_rfl) (by kernel_rfl) (by kernel_rfl) (fun _ _ _ h => h) (Or.inl ⟨rfl, fun W hW => by go_simp⟩) hS1 ?_
            simp only [Act.put, List.setIfInBounds_toArray, List.set_cons_zero, List.set_cons_succ]
            refine takeR (fuel := 27) (i := 32) (v := .slice al L.length cl) rfl (by kernel_rfl) (by kernel_rfl) (by kernel_rfl) (fun _ _ _ h => h) (Or.inl ⟨rfl, fun W hW => by have cj : W.cell? ⟨lp, 0, none⟩ = some (.slice al L.length cl) := (hD.p.below hW hlp).cell 0; go_simp⟩) hS1 ?_
            simp only [Act.put, List.setIfInBounds_toArray, List.set_cons_zero, List.set_cons_succ]
            refine takeR (fuel := 26) (i := 33) (v := .int .i64 mem) rfl (by kernel_rfl) (by kernel_rfl) (by kernel_rfl) (fun _ _ _ h => h) (Or.inl ⟨rfl, fun W hW => by go_simp⟩) hS1 ?_
            simp only [Act.put, List.setIfInBounds_toArray, List.set_cons_zero, List.set_cons_succ]
            refine takeR (fuel := 25) (i := 34) (v := .int .i64 book) rfl (by kernel_rfl) (by kernel_rfl) (by kernel_rfl) (fun _ _ _ h => h) (Or.inl ⟨rfl, fun W hW => by go_simp⟩) hS1 ?_
            simp only [Act.put, List.setIfInBounds_toArray, List.set_cons_zero, List.set_cons_succ]
            refine consR (fuel := 24) (i := 31) rfl (by kernel_rfl) (fun K hK => ?_)
            rw [if_pos (by rfl)]
            go_simp
            refine (C19.out v1 hS1).mono ?_
            rintro e v2 ⟨a5, c5, rfl, HZ5⟩
            have hC := HZ5.out.2
            refine hK.out _ _ (hS1.trans (hC.mono hS1.size)) (fun hS2 => ?_)
            have hT2 : Below v1.heap.size v1 v2 := hC
            clear hK hC
            try simp only [Act.put, List.setIfInBounds_toArray, List.set_cons_zero, List.set_cons_succ]
            refine consR (fuel := 23) (i := 35) rfl (by kernel_rfl) (fun K hK => ?_)
            rw [if_pos (by rfl)]
            go_simp
            refine (C20.out v2 hS2).mono ?_
            rintro e v3 ⟨a6, c6, rfl, HZ6⟩
            have hC := HZ6.out.2
            refine hK.out _ _ (hS2.trans (hC.mono hS2.size)) (fun hS3 => ?_)
            have hT3 : Below v2.heap.size v2 v3 := hC
            clear hK hC
            try simp only [Act.put, List.setIfInBounds_toArray, List.set_cons_zero, List.set_cons_succ]
            refine consR (fuel := 22) (i := 36) rfl (by kernel_rfl) (fun K hK => ?_)
            rw [if_pos (by rfl)]
            go_simp
            refine (rlots (lotsB mem book L) hlotl a5 c5 a6 c6 v3 (HZ5.out.1.below hT3) HZ6.out.1).mono ?_
            rintro e v4 ⟨rfl, hC⟩
            refine hK.out _ _ (hS3.trans (hC.mono hS3.size)) (fun hS4 => ?_)
            have hT4 : Below v3.heap.size v3 v4 := hC
            clear hK hC
            try simp only [Act.put, List.setIfInBounds_toArray, List.set_cons_zero, List.set_cons_succ]
            refine takeR (fuel := 21) (i := 37) (v := .bool true) rfl (by kernel_rfl) (by kernel_rfl) (by kernel_rfl) (fun _ _ _ h => h) (Or.inl ⟨rfl, fun W hW => by go_simp⟩) hS4 ?_
            simp only [Act.put, List.setIfInBounds_toArray, List.set_cons_zero, List.set_cons_succ]
            refine takeR (fuel := 20) (i := 38) (v := .bool true) rfl (by kernel_rfl) (by kernel_rfl) (by kernel_rfl) (fun _ _ _ h => h) (Or.inl ⟨rfl, fun W hW => by go_simp⟩) hS4 ?_
            simp only [Act.put, List.setIfInBounds_toArray, List.set_cons_zero, List.set_cons_succ]
            refine takeR (fuel := 19) (i := 39) (v := .pointer (some ⟨c, 0, none⟩)) rfl (by kernel_rfl) (by kernel_rfl) (by kernel_rfl) (fun _ _ _ h => h) (Or.inl ⟨rfl, fun W hW => by go_simp⟩) hS4 ?_
            simp only [Act.put, List.setIfInBounds_toArray, List.set_cons_zero, List.set_cons_succ]
            refine takeR (fuel := 18) (i := 41) (v := .slice al L.length cl) rfl (by kernel_rfl) (by kernel_rfl) (by kernel_rfl) (fun _ _ _ h => h) (Or.inl ⟨rfl, fun W hW => by have cj : W.cell? ⟨lp, 0, none⟩ = some (.slice al L.length cl) := (hD.p.below hW hlp).cell 0; go_simp⟩) hS4 ?_
            simp only [Act.put, List.setIfInBounds_toArray, List.set_cons_zero, List.set_cons_succ]
            refine consR (fuel := 17) (i := 40) rfl (by kernel_rfl) (fun K hK => ?_)
            rw [if_pos (by rfl)]
            go_simp
            refine (C22.out v4 hS4).mono ?_
            rintro e v5 ⟨a7, c7, rfl, HZ7⟩
            have hC := HZ7.out.2
            refine hK.out _ _ (hS4.trans (hC.mono hS4.size)) (fun hS5 => ?_)
            have hT5 : Below v4.heap.size v4 v5 := hC
            clear hK hC
            try simp only [Act.put, List.setIfInBounds_toArray, List.set_cons_zero, List.set_cons_succ]
            refine consR (fuel := 16) (i := 42) rfl (by kernel_rfl) (fun K hK => ?_)
            rw [if_pos (by rfl)]
            go_simp
            refine (C23.out v5 hS5).mono ?_
            rintro e v6 ⟨a8, c8, rfl, HZ8⟩
            have hC := HZ8.out.2
            refine hK.out _ _ (hS5.trans (hC.mono hS5.size)) (fun hS6 => ?_)
            have hT6 : Below v5.heap.size v5 v6 := hC
            clear hK hC
            try simp only [Act.put, List.setIfInBounds_toArray, List.set_cons_zero, List.set_cons_succ]
            refine consR (fuel := 15) (i := 43) rfl (by kernel_rfl) (fun K hK => ?_)
            rw [if_pos (by rfl)]
            go_simp
            refine (rtexts (cmp L) hcl a7 c7 a8 c8 v6 (HZ7.out.1.below hT6) HZ8.out.1).mono ?_
            rintro e v7 ⟨rfl, hC⟩
            refine hK.out _ _ (hS6.trans (hC.mono hS6.size)) (fun hS7 => ?_)
            have hT7 : Below v6.heap.size v6 v7 := hC
            clear hK hC
            try simp only [Act.put, List.setIfInBounds_toArray, List.set_cons_zero, List.set_cons_succ]
            refine takeR (fuel := 14) (i := 44) (v := .bool true) rfl (by kernel_rfl) (by kernel_rfl) (by kernel_rfl) (fun _ _ _ h => h) (Or.inl ⟨rfl, fun W hW => by go_simp⟩) hS7 ?_
            simp only [Act.put, List.setIfInBounds_toArray, List.set_cons_zero, List.set_cons_succ]
            refine takeR (fuel := 13) (i := 45) (v := .bool true) rfl (by kernel_rfl) (by kernel_rfl) (by kernel_rfl) (fun _ _ _ h => h) (Or.inl ⟨rfl, fun W hW => by go_simp⟩) hS7 ?_
            simp only [Act.put, List.setIfInBounds_toArray, List.set_cons_zero, List.set_cons_succ]
            refine takeR (fuel := 12) (i := 46) (v := .pointer (some ⟨c, 0, none⟩)) rfl (by kernel_rfl) (by kernel_rfl) (by kernel_rfl) (fun _ _ _ h => h) (Or.inl ⟨rfl, fun W hW => by go_simp⟩) hS7 ?_
            simp only [Act.put, List.setIfInBounds_toArray, List.set_cons_zero, List.set_cons_succ]
            refine takeR (fuel := 11) (i := 47) (v := .string th) rfl (by kernel_rfl) (by kernel_rfl) (by kernel_rfl) (fun _ _ _ h => h) (Or.inl ⟨rfl, fun W hW => by go_simp⟩) hS7 ?_
            simp only [Act.put, List.setIfInBounds_toArray, List.set_cons_zero, List.set_cons_succ]
            refine takeR (fuel := 10) (i := 49) (v := .slice al L.length cl) rfl (by kernel_rfl) (by kernel_rfl) (by kernel_rfl) (fun _ _ _ h => h) (Or.inl ⟨rfl, fun W hW => by have cj : W.cell? ⟨lp, 0, none⟩ = some (.slice al L.length cl) := (hD.p.below hW hlp).cell 0; go_simp⟩) hS7 ?_
            simp only [Act.put, List.setIfInBounds_toArray, List.set_cons_zero, List.set_cons_succ]
            refine takeR (fuel := 9) (i := 50) (v := .string th) rfl (by kernel_rfl) (by kernel_rfl) (by kernel_rfl) (fun _ _ _ h => h) (Or.inl ⟨rfl, fun W hW => by go_simp⟩) hS7 ?_
            simp only [Act.put, List.setIfInBounds_toArray, List.set_cons_zero, List.set_cons_succ]
            refine consR (fuel := 8) (i := 48) rfl (by kernel_rfl) (fun K hK => ?_)
            rw [if_pos (by rfl)]
            go_simp
            refine (C24.out v7 hS7).mono ?_
            rintro e v8 ⟨rfl, hC⟩
            refine hK.out _ _ (hS7.trans (hC.mono hS7.size)) (fun hS8 => ?_)
            have hT8 : Below v7.heap.size v7 v8 := hC
            clear hK hC
            try simp only [Act.put, List.setIfInBounds_toArray, List.set_cons_zero, List.set_cons_succ]
            refine consR (fuel := 7) (i := 51) rfl (by kernel_rfl) (fun K hK => ?_)
            rw [if_pos (by rfl)]
            go_simp
            refine (C25.out v8 hS8).mono ?_
            rintro e v9 ⟨rfl, hC⟩
            refine hK.out _ _ (hS8.trans (hC.mono hS8.size)) (fun hS9 => ?_)
            have hT9 : Below v8.heap.size v8 v9 := hC
            clear hK hC
            try simp only [Act.put, List.setIfInBounds_toArray, List.set_cons_zero, List.set_cons_succ]
            refine takeR (fuel := 6) (i := 52) (v := .int .i64 OV) rfl (by kernel_rfl) (by kernel_rfl) (by kernel_rfl) (fun _ _ _ h => h) (Or.inl ⟨rfl, fun W hW => by go_simp⟩) hS9 ?_
            simp only [Act.put, List.setIfInBounds_toArray, List.set_cons_zero, List.set_cons_succ]
            refine takeR (fuel := 5) (i := 53) (v := .bool true) rfl (by kernel_rfl) (by kernel_rfl) (by kernel_rfl) (fun _ _ _ h => h) (Or.inl ⟨rfl, fun W hW => by go_simp⟩) hS9 ?_
            simp only [Act.put, List.setIfInBounds_toArray, List.set_cons_zero, List.set_cons_succ]
            refine takeR (fuel := 4) (i := 54) (v := .bool true) rfl (by kernel_rfl) (by kernel_rfl) (by kernel_rfl) (fun _ _ _ h => h) (Or.inl ⟨rfl, fun W hW => by go_simp⟩) hS9 ?_
            simp only [Act.put, List.setIfInBounds_toArray, List.set_cons_zero, List.set_cons_succ]
            refine takeR (fuel := 3) (i := 55) (v := .bool true) rfl (by kernel_rfl) (by kernel_rfl) (by kernel_rfl) (fun _ _ _ h => h) (Or.inl ⟨rfl, fun W hW => by go_simp⟩) hS9 ?_
            simp only [Act.put, List.setIfInBounds_toArray, List.set_cons_zero, List.set_cons_succ]
            refine consR (fuel := 2) (i := 56) rfl (by kernel_rfl) (fun K hK => ?_)
            rw [if_pos (by rfl)]
            go_simp
            refine (xcawake v9).mono ?_
            rintro e v10 ⟨rfl, hC⟩
            refine hK.out _ _ (hS9.trans (hC.mono hS9.size)) (fun hS10 => ?_)
            have hT10 : Below v9.heap.size v9 v10 := hC
            clear hK hC
            try simp only [Act.put, List.setIfInBounds_toArray, List.set_cons_zero, List.set_cons_succ]
            refine takeR (fuel := 1) (i := 57) (v := .bool true) rfl (by kernel_rfl) (by kernel_rfl) (by kernel_rfl) (fun _ _ _ h => h) (Or.inl ⟨rfl, fun W hW => by go_simp⟩) hS10 ?_
            simp only [Act.put, List.setIfInBounds_toArray, List.set_cons_zero, List.set_cons_succ]
            refine takeR (fuel := 0) (i := 58) (v := .bool true) rfl (by kernel_rfl) (by kernel_rfl) (by kernel_rfl) (fun _ _ _ h => h) (Or.inl ⟨rfl, fun W hW => by go_simp⟩) hS10 ?_
            simp only [Act.put, List.setIfInBounds_toArray, List.set_cons_zero, List.set_cons_succ]
            refine wpAnyH_done (by kernel_rfl) ?_ _
            go_wp2_with fail
            go_ret
            exact ⟨rfl, hD.b.trans (hS10.mono hD.b.size)⟩
end Go.Proofs.Ytbfnfebmmhhegaa
