/- layer 12: law Plays -/
import Derived.Test.YtbfnfebmmhhegaaCP
import Derived.WalkKit
import Derived.ProofKit
import Derived.Handy
import Derived.WalkLawsBesides
import Derived.WalkSpells
import Derived.BigQuiet
import Derived.BigCall
import Derived.Deep.QuietTactic
import Derived.Deep.Light
import Derived.Deep.OwnRows
import Derived.Laws.AppendOwnNone
import Derived.Laws.Strings3
import Derived.Laws.RangeAny
import Derived.Deep.RegionWith
import Derived.Lib.BitFns
import Derived.Lib.Walk
import Derived.Lib.Strings
import Derived.Lib.OthersKept
import Derived.Deep.CutBlock
import Derived.Deep.DeepCutAuto
import Derived.Deep.LoopGhost
import Derived.Deep.RegionHeld3
import Derived.Lib.SmallJoins
import Derived.Maps.AppendAt
import Derived.Laws.IdiomStrings
import Derived.Lib.AppendZeros
import Derived.Deep.WholeRow
import Derived.Laws.BitsAllLaws
import Derived.Lib.ConvBytes
import Derived.Deep.RegionLaw
import Derived.Maps.OwnSet
import Derived.Maps.OwnOps
import Derived.Maps.RangeWalk
import Derived.Maps.Ext
import Derived.DeepKeys4
import Derived.Laws.StructEq
import Derived.Shelf.SlSortCmp.NoneTotal
import Derived.Deep.MidRow
import Derived.Laws.MakeOwn
namespace Go.Proofs.Ytbfnfebmmhhegaa
open Go.RowKit
set_option linter.unusedVariables false
set_option linter.unusedSimpArgs false
set_option maxRecDepth 20000
theorem consR2 {P : Program} {l : List Oper} {Q : Exit → Act → World → Prop} {md : Region.Mode} {S : World → Prop} {fuel : Nat} {listed : Array Bool} {a : Act} {w : World} {i j : Nat} {o o2 : Oper} (hi : l[i]? = some o) (hj : l[j]? = some o2) (hr : Region.ready md l.toArray listed = [i, j])
    (h : ∀ K' : Act → World → Prop, Shut (∀ a w, S w → (S w → wpAnyH P md l.toArray Q S fuel (listed.setIfInBounds i true) a w) → K' a w) → if Region.wanted o (yielded l.toArray a.tmps) = true then Oper.wp P o a w K' Q else K' (a.put o.dst undef) w)
    (h2 : ∀ K' : Act → World → Prop, Shut (∀ a w, S w → (S w → wpAnyH P md l.toArray Q S fuel (listed.setIfInBounds j true) a w) → K' a w) → if Region.wanted o2 (yielded l.toArray a.tmps) = true then Oper.wp P o2 a w K' Q else K' (a.put o2.dst undef) w) :
    wpAnyH P md l.toArray Q S (fuel + 1) listed a w :=
  wpAnyH_ready hr (by simp) (AllReadyH.cons (by rw [List.getElem?_toArray]; exact hi) h (AllReadyH.cons (by rw [List.getElem?_toArray]; exact hj) h2 AllReadyH.nil))
theorem load30 (W : World) (b p p1 p2 p3 p4 p5 p6 p7 : Nat) (v0 v1 v2 v3 v4 v5 v6 v7 : Value) (h1 : p1 = p + 1) (h2 : p2 = p + 2) (h3 : p3 = p + 3) (h4 : p4 = p + 4) (h5 : p5 = p + 5) (h6 : p6 = p + 6) (h7 : p7 = p + 7) (c0 : W.cell? ⟨b, p, none⟩ = some v0) (c1 : W.cell? ⟨b, p1, none⟩ = some v1) (c2 : W.cell? ⟨b, p2, none⟩ = some v2) (c3 : W.cell? ⟨b, p3, none⟩ = some v3) (c4 : W.cell? ⟨b, p4, none⟩ = some v4) (c5 : W.cell? ⟨b, p5, none⟩ = some v5) (c6 : W.cell? ⟨b, p6, none⟩ = some v6) (c7 : W.cell? ⟨b, p7, none⟩ = some v7) : (Instr.loadAt 30 (.pointer (some ⟨b, p, none⟩))).run Try.prog W = .ok (.agg #[v0, v1, v2, v3, v4, v5, v6, v7]) W := by
  subst h1 h2 h3 h4 h5 h6 h7
  go_simp
/-- handed calls -/
structure Acs (w : World) (a : Option Addr) (xs : List Ac) : Prop where
  r : Rw 8 (fun x : Ac => x.cs.toList) w a xs
  w : ∀ x ∈ xs, Aw w x
  n : xs.length ≤ 140737488355328
theorem dop_ds {w0 : World} {c q m lp : Nat} {L : List Num.Bal} {e : Ending} {w' : World} (h : DoP w0 c q m lp L e w') : ∃ al cl, e = .returned (.bool true) ∧ Hid (Ds w0 w' c q m lp L al cl) := ⟨_, _, h.1, h.2.choose_spec.choose_spec⟩
theorem ds_told {w0 W : World} {c q m lp : Nat} {L : List Num.Bal} {al : Option Addr} {cl : Nat} (h : Ds w0 W c q m lp L al cl) (g : Num.Good L) (hl : L.length ≤ 1000000) : Calls Try.prog 13 #[.pointer (some ⟨c, 0, none⟩)] W fun e W1 => ∃ a1 c1, e = .returned (.slice a1 L.length c1) ∧ Hid (Ds w0 W1 c q m lp L al cl ∧ Bs W1 a1 L ∧ Below W.heap.size W W1) := by
  refine (xtold c q m L hl (good_len g) W h.x).mono ?_
  rintro e W1 ⟨v, rfl, ho, hb⟩
  obtain ⟨a1, c1, rfl, _, hB⟩ := own_bs ho rfl
  exact ⟨a1, c1, rfl, h.below hb, hB, hb⟩
theorem ds_same {w0 W : World} {c q m lp : Nat} {L : List Num.Bal} {al a1 : Option Addr} {cl c1 : Nat} (h : Ds w0 W c q m lp L al cl) (hl : L.length ≤ 1000000) (hb : Bs W a1 L) : Calls Try.prog 12 #[.slice a1 L.length c1, .slice al L.length cl] W fun e W1 => e = .returned (.bool true) ∧ Hid (Ds w0 W1 c q m lp L al cl) := by
  refine (xsame L hl a1 c1 al cl W hb h.r).mono ?_
  rintro e W1 ⟨rfl, hb⟩
  exact ⟨rfl, h.below hb⟩
/-- new books, and no balances -/
theorem ds_new (w : World) : Calls Try.prog 9 #[] w fun e w1 => ∃ c q m, e = .returned (.pointer (some ⟨c, 0, none⟩)) ∧ Hid (w.heap.size ≤ w1.heap.size ∧ Ds w (w1.alloc (.cells #[.slice none 0 0] 25)) c q m w1.heap.size [] none 0) := (xcnew w).mono fun e w1 hh => by
  obtain ⟨c, q, m, rfl, _, _, hm, hz⟩ := hh
  have hb := hz.out.2
  exact ⟨c, q, m, rfl, hb.size, hb.alloc hb.size _, hz.out.1.below ((Below.refl _ w1).alloc (Nat.le_refl _) _), Bx.new w1 _ _, by simp, fun h => by simp at h, hm, hb.size⟩
set_option maxHeartbeats 16000000 in
theorem lplays (xs : List Ac) (a0 : Option Addr) (cap : Nat) (w : World) (h : Acs w a0 xs) : Calls Try.prog 3 #[.slice a0 xs.length cap] w (OkP w) := by
  have HA : Hid (Acs w a0 xs) := h
  have HN := ds_new w
  have HN' : Hid (Calls Try.prog 9 #[] w fun e w1 => ∃ c q m, e = .returned (.pointer (some ⟨c, 0, none⟩)) ∧ Hid (w.heap.size ≤ w1.heap.size ∧ Ds w (w1.alloc (.cells #[.slice none 0 0] 25)) c q m w1.heap.size [] none 0)) := HN
  clear h HN
  go_enter Try.func3, Try.ntmps3
  go_wp2_with (go_at_call 9; refine HN'.out.mono ?_; rintro e w1 ⟨c, q, m, rfl, HD1⟩)
  have HD2 : Hid (Ds w (w1.alloc (.cells #[.slice none 0 0] 25)) c q m w1.heap.size [] none 0) := HD1.out.2
  generalize w1.heap.size = lp at *
  clear HN' HD1
  go_loopw [5] (fun i wr => ∃ (k : Nat) (L : List Num.Bal) (al : Option Addr) (cl : Nat), k ≤ xs.length ∧ k ≤ 40 ∧ i = .int .i64 k ∧ Hid (Num.Good L ∧ L.length ≤ 82 * k ∧ Ds w wr c q m lp L al cl))
    (fun i _ => xs.length - (intOf i).toNat)
  case atStart => exact ⟨0, [], none, 0, Nat.zero_le _, by omega, rfl, Num.Good.nil, by simp, HD2.out⟩
  case round =>
    obtain ⟨k, L, al, cl, hk, hk40, rfl, HR⟩ := hrel
    clear HD2
    by_cases hkn : k < xs.length
    · have hkz : (k : Int) < (xs.length : Int) := by omega
      by_cases hk4 : k < 40
      · have hk4' : (k : Int) < 40 := by omega
        obtain ⟨blk, off, rfl, hbl, hcs⟩ := HA.out.r (by omega)
        have hc8 := hcs k hkn
        have hw8 := HA.out.w xs[k] (List.getElem_mem hkn)
        generalize xs[k] = x at *
        obtain ⟨k9, a, b, c9, s, n, l, la, lc, t, ta, tc⟩ := x
        have c0 : w.cell? ⟨blk, off + k * 8, none⟩ = some (.int .i64 k9) := hc8 0 (by omega)
        have c1 : w.cell? ⟨blk, off + k * 8 + 1, none⟩ = some (.int .i64 a) := hc8 1 (by omega)
        have c2 : w.cell? ⟨blk, off + k * 8 + 2, none⟩ = some (.int .i64 b) := hc8 2 (by omega)
        have c3 : w.cell? ⟨blk, off + k * 8 + 3, none⟩ = some (.int .i64 c9) := hc8 3 (by omega)
        have c4 : w.cell? ⟨blk, off + k * 8 + 4, none⟩ = some (.string s) := hc8 4 (by omega)
        have c5 : w.cell? ⟨blk, off + k * 8 + 5, none⟩ = some (.int .i64 n) := hc8 5 (by omega)
        have c6 : w.cell? ⟨blk, off + k * 8 + 6, none⟩ = some (.slice la l.length lc) := hc8 6 (by omega)
        have c7 : w.cell? ⟨blk, off + k * 8 + 7, none⟩ = some (.slice ta t.length tc) := hc8 7 (by omega)
        have HSH : Hid (∀ V, Calls Try.prog 10 #[.agg #[.int .i64 k9, .int .i64 a, .int .i64 b, .int .i64 c9, .string s, .int .i64 n, .slice la l.length lc, .slice ta t.length tc]] V fun e w' => e = .returned (.bool (Ac.sh ⟨k9, a, b, c9, s, n, l, la, lc, t, ta, tc⟩)) ∧ Below V.heap.size V w') := fun V => xsh ⟨k9, a, b, c9, s, n, l, la, lc, t, ta, tc⟩ V
        have hDB := HR.out.2.2.b
        clear hc8 hcs
        cases hsh : Ac.sh ⟨k9, a, b, c9, s, n, l, la, lc, t, ta, tc⟩
        · rw [hsh] at HSH
          go_upto_region 6 with fail
          refine wp_region_held (S := fun W => Below w.heap.size w W) (by kernel_rfl) ?_
          change wpAnyH _ _ _ _ _ 21 #[false, false, false, false, false, false, false, false, false, false, false, false, false, false, false, false, false, false, false, false, false] _ wr.drew
          have hT0 : Below wr.heap.size wr wr.drew := ⟨rfl, rfl, rfl, Nat.le_refl _, fun _ _ => rfl⟩
          have hS0 : Below w.heap.size w wr.drew := hDB.trans (hT0.mono hDB.size)
          obtain ⟨v0, hv0⟩ : ∃ v, v = wr.drew := ⟨_, rfl⟩
          rw [← hv0] at hS0 hT0 ⊢
          clear hv0
          refine takeR (fuel := 20) (i := 0) (v := .slice (some ⟨blk, off, none⟩) xs.length cap) rfl (by kernel_rfl) (by kernel_rfl) (by kernel_rfl) (fun _ _ _ h => h) (Or.inl ⟨rfl, fun W hW => by go_simp⟩) hS0 ?_
          simp only [Act.put, List.setIfInBounds_toArray, List.set_cons_zero, List.set_cons_succ]
          refine takeR (fuel := 19) (i := 1) (v := .int .i64 k) rfl (by kernel_rfl) (by kernel_rfl) (by kernel_rfl) (fun _ _ _ h => h) (Or.inl ⟨rfl, fun W hW => by go_simp⟩) hS0 ?_
          simp only [Act.put, List.setIfInBounds_toArray, List.set_cons_zero, List.set_cons_succ]
          refine takeR (fuel := 18) (i := 2) (v := .pointer (some ⟨blk, off + k * 8, none⟩)) rfl (by kernel_rfl) (by kernel_rfl) (by kernel_rfl) (fun _ _ _ h => h) (Or.inl ⟨rfl, fun W hW => by go_simp⟩) hS0 ?_
          simp only [Act.put, List.setIfInBounds_toArray, List.set_cons_zero, List.set_cons_succ]
          refine takeR (fuel := 17) (i := 3) (v := .agg #[.int .i64 k9, .int .i64 a, .int .i64 b, .int .i64 c9, .string s, .int .i64 n, .slice la l.length lc, .slice ta t.length tc]) rfl (by kernel_rfl) (by kernel_rfl) (by kernel_rfl) (fun _ _ _ h => h) (Or.inl ⟨rfl, fun W hW => exl _ _ _ _ rfl _ _ rfl (load30 W blk (off + k * 8) _ _ _ _ _ _ _ _ _ _ _ _ _ _ _ rfl rfl rfl rfl rfl rfl rfl ((hW.cell (p := ⟨blk, _, none⟩) hbl).trans c0) ((hW.cell (p := ⟨blk, _, none⟩) hbl).trans c1) ((hW.cell (p := ⟨blk, _, none⟩) hbl).trans c2) ((hW.cell (p := ⟨blk, _, none⟩) hbl).trans c3) ((hW.cell (p := ⟨blk, _, none⟩) hbl).trans c4) ((hW.cell (p := ⟨blk, _, none⟩) hbl).trans c5) ((hW.cell (p := ⟨blk, _, none⟩) hbl).trans c6) ((hW.cell (p := ⟨blk, _, none⟩) hbl).trans c7))⟩) hS0 ?_
          simp only [Act.put, List.setIfInBounds_toArray, List.set_cons_zero, List.set_cons_succ]
          refine consR (fuel := 16) (i := 4) rfl (by kernel_rfl) (fun K hK => ?_)
          rw [if_pos (by rfl)]
          go_simp
          refine (HSH.out v0).mono ?_
          rintro e v1 ⟨rfl, hC⟩
          refine hK.out _ _ (hS0.trans (hC.mono hS0.size)) (fun hS1 => ?_)
          have hT1 : Below wr.heap.size wr v1 := hT0.trans (hC.mono hT0.size)
          clear hK hC
          try simp only [Act.put, List.setIfInBounds_toArray, List.set_cons_zero, List.set_cons_succ]
          refine takeR (fuel := 15) (i := 5) (v := .bool false) rfl (by kernel_rfl) (by kernel_rfl) (by kernel_rfl) (fun _ _ _ h => h) (Or.inl ⟨rfl, fun W hW => by go_simp⟩) hS1 ?_
          simp only [Act.put, List.setIfInBounds_toArray, List.set_cons_zero, List.set_cons_succ]
          refine takeR (fuel := 14) (i := 6) (v := undef) rfl (by kernel_rfl) (by kernel_rfl) (by kernel_rfl) (fun _ _ _ h => h) (Or.inr ⟨rfl, rfl⟩) hS1 ?_
          simp only [Act.put, List.setIfInBounds_toArray, List.set_cons_zero, List.set_cons_succ]
          refine takeR (fuel := 13) (i := 7) (v := undef) rfl (by kernel_rfl) (by kernel_rfl) (by kernel_rfl) (fun _ _ _ h => h) (Or.inr ⟨rfl, rfl⟩) hS1 ?_
          simp only [Act.put, List.setIfInBounds_toArray, List.set_cons_zero, List.set_cons_succ]
          refine takeR (fuel := 12) (i := 8) (v := undef) rfl (by kernel_rfl) (by kernel_rfl) (by kernel_rfl) (fun _ _ _ h => h) (Or.inr ⟨rfl, rfl⟩) hS1 ?_
          simp only [Act.put, List.setIfInBounds_toArray, List.set_cons_zero, List.set_cons_succ]
          refine takeR (fuel := 11) (i := 9) (v := undef) rfl (by kernel_rfl) (by kernel_rfl) (by kernel_rfl) (fun _ _ _ h => h) (Or.inr ⟨rfl, rfl⟩) hS1 ?_
          simp only [Act.put, List.setIfInBounds_toArray, List.set_cons_zero, List.set_cons_succ]
          refine takeR (fuel := 10) (i := 10) (v := undef) rfl (by kernel_rfl) (by kernel_rfl) (by kernel_rfl) (fun _ _ _ h => h) (Or.inr ⟨rfl, rfl⟩) hS1 ?_
          simp only [Act.put, List.setIfInBounds_toArray, List.set_cons_zero, List.set_cons_succ]
          refine takeR (fuel := 9) (i := 11) (v := undef) rfl (by kernel_rfl) (by kernel_rfl) (by kernel_rfl) (fun _ _ _ h => h) (Or.inr ⟨rfl, rfl⟩) hS1 ?_
          simp only [Act.put, List.setIfInBounds_toArray, List.set_cons_zero, List.set_cons_succ]
          refine takeR (fuel := 8) (i := 12) (v := undef) rfl (by kernel_rfl) (by kernel_rfl) (by kernel_rfl) (fun _ _ _ h => h) (Or.inr ⟨rfl, rfl⟩) hS1 ?_
          simp only [Act.put, List.setIfInBounds_toArray, List.set_cons_zero, List.set_cons_succ]
          refine takeR (fuel := 7) (i := 13) (v := undef) rfl (by kernel_rfl) (by kernel_rfl) (by kernel_rfl) (fun _ _ _ h => h) (Or.inr ⟨rfl, rfl⟩) hS1 ?_
          simp only [Act.put, List.setIfInBounds_toArray, List.set_cons_zero, List.set_cons_succ]
          refine takeR (fuel := 6) (i := 14) (v := undef) rfl (by kernel_rfl) (by kernel_rfl) (by kernel_rfl) (fun _ _ _ h => h) (Or.inr ⟨rfl, rfl⟩) hS1 ?_
          simp only [Act.put, List.setIfInBounds_toArray, List.set_cons_zero, List.set_cons_succ]
          refine takeR (fuel := 5) (i := 15) (v := undef) rfl (by kernel_rfl) (by kernel_rfl) (by kernel_rfl) (fun _ _ _ h => h) (Or.inr ⟨rfl, rfl⟩) hS1 ?_
          simp only [Act.put, List.setIfInBounds_toArray, List.set_cons_zero, List.set_cons_succ]
          refine takeR (fuel := 4) (i := 16) (v := undef) rfl (by kernel_rfl) (by kernel_rfl) (by kernel_rfl) (fun _ _ _ h => h) (Or.inr ⟨rfl, rfl⟩) hS1 ?_
          simp only [Act.put, List.setIfInBounds_toArray, List.set_cons_zero, List.set_cons_succ]
          refine takeR (fuel := 3) (i := 17) (v := undef) rfl (by kernel_rfl) (by kernel_rfl) (by kernel_rfl) (fun _ _ _ h => h) (Or.inr ⟨rfl, rfl⟩) hS1 ?_
          simp only [Act.put, List.setIfInBounds_toArray, List.set_cons_zero, List.set_cons_succ]
          refine takeR (fuel := 2) (i := 18) (v := undef) rfl (by kernel_rfl) (by kernel_rfl) (by kernel_rfl) (fun _ _ _ h => h) (Or.inr ⟨rfl, rfl⟩) hS1 ?_
          simp only [Act.put, List.setIfInBounds_toArray, List.set_cons_zero, List.set_cons_succ]
          refine takeR (fuel := 1) (i := 19) (v := undef) rfl (by kernel_rfl) (by kernel_rfl) (by kernel_rfl) (fun _ _ _ h => h) (Or.inr ⟨rfl, rfl⟩) hS1 ?_
          simp only [Act.put, List.setIfInBounds_toArray, List.set_cons_zero, List.set_cons_succ]
          refine takeR (fuel := 0) (i := 20) (v := .bool false) rfl (by kernel_rfl) (by kernel_rfl) (by kernel_rfl) (fun _ _ _ h => h) (Or.inl ⟨rfl, fun W hW => by go_simp⟩) hS1 ?_
          simp only [Act.put, List.setIfInBounds_toArray, List.set_cons_zero, List.set_cons_succ]
          refine wpAnyH_done (by kernel_rfl) ?_ _
          go_wp2_with fail
          go_roundw
          case rel => exact ⟨k + 1, L, al, cl, by omega, by omega, by simp, HR.out.1, by have := HR.out.2.1; omega, HR.out.2.2.below hT1⟩
          case measure => simp [intOf]; omega
        · rw [hsh] at HSH
          have hLn : L.length ≤ 3280 := by have := HR.out.2.1; omega
          have HDO : Hid (∀ V, Below wr.heap.size wr V → Calls Try.prog 11 #[.pointer (some ⟨c, 0, none⟩), .pointer (some ⟨lp, 0, none⟩), .agg #[.int .i64 k9, .int .i64 a, .int .i64 b, .int .i64 c9, .string s, .int .i64 n, .slice la l.length lc, .slice ta t.length tc]] V fun e V' => ∃ al cl, e = .returned (.bool true) ∧ Hid (Ds w V' c q m lp (Ac.L L ⟨k9, a, b, c9, s, n, l, la, lc, t, ta, tc⟩) al cl)) := fun V hb => (xdoes w c q m lp L HR.out.1 (by omega) al cl ⟨k9, a, b, c9, s, n, l, la, lc, t, ta, tc⟩ hsh V (HR.out.2.2.below hb) ((hw8.below hDB).below hb)).mono fun e V' hh => dop_ds hh
          have HL2 : Hid (Num.Good (Ac.L L ⟨k9, a, b, c9, s, n, l, la, lc, t, ta, tc⟩) ∧ (Ac.L L ⟨k9, a, b, c9, s, n, l, la, lc, t, ta, tc⟩).length ≤ 82 * (k + 1) ∧ (Ac.L L ⟨k9, a, b, c9, s, n, l, la, lc, t, ta, tc⟩).length ≤ 1000000) := by
            have := Ac.len L ⟨k9, a, b, c9, s, n, l, la, lc, t, ta, tc⟩ hsh
            have := HR.out.2.1
            exact ⟨Ac.good HR.out.1 _, by omega, by omega⟩
          generalize Ac.L L ⟨k9, a, b, c9, s, n, l, la, lc, t, ta, tc⟩ = L2 at *
          clear hsh hw8 HR
          go_upto_region 6 with fail
          refine wp_region_held (S := fun W => Below w.heap.size w W) (by kernel_rfl) ?_
          change wpAnyH _ _ _ _ _ 21 #[false, false, false, false, false, false, false, false, false, false, false, false, false, false, false, false, false, false, false, false, false] _ wr.drew
          have hT0 : Below wr.heap.size wr wr.drew := ⟨rfl, rfl, rfl, Nat.le_refl _, fun _ _ => rfl⟩
          have hS0 : Below w.heap.size w wr.drew := hDB.trans (hT0.mono hDB.size)
          obtain ⟨v0, hv0⟩ : ∃ v, v = wr.drew := ⟨_, rfl⟩
          rw [← hv0] at hS0 hT0 ⊢
          clear hv0
          refine takeR (fuel := 20) (i := 0) (v := .slice (some ⟨blk, off, none⟩) xs.length cap) rfl (by kernel_rfl) (by kernel_rfl) (by kernel_rfl) (fun _ _ _ h => h) (Or.inl ⟨rfl, fun W hW => by go_simp⟩) hS0 ?_
          simp only [Act.put, List.setIfInBounds_toArray, List.set_cons_zero, List.set_cons_succ]
          refine takeR (fuel := 19) (i := 1) (v := .int .i64 k) rfl (by kernel_rfl) (by kernel_rfl) (by kernel_rfl) (fun _ _ _ h => h) (Or.inl ⟨rfl, fun W hW => by go_simp⟩) hS0 ?_
          simp only [Act.put, List.setIfInBounds_toArray, List.set_cons_zero, List.set_cons_succ]
          refine takeR (fuel := 18) (i := 2) (v := .pointer (some ⟨blk, off + k * 8, none⟩)) rfl (by kernel_rfl) (by kernel_rfl) (by kernel_rfl) (fun _ _ _ h => h) (Or.inl ⟨rfl, fun W hW => by go_simp⟩) hS0 ?_
          simp only [Act.put, List.setIfInBounds_toArray, List.set_cons_zero, List.set_cons_succ]
          refine takeR (fuel := 17) (i := 3) (v := .agg #[.int .i64 k9, .int .i64 a, .int .i64 b, .int .i64 c9, .string s, .int .i64 n, .slice la l.length lc, .slice ta t.length tc]) rfl (by kernel_rfl) (by kernel_rfl) (by kernel_rfl) (fun _ _ _ h => h) (Or.inl ⟨rfl, fun W hW => exl _ _ _ _ rfl _ _ rfl (load30 W blk (off + k * 8) _ _ _ _ _ _ _ _ _ _ _ _ _ _ _ rfl rfl rfl rfl rfl rfl rfl ((hW.cell (p := ⟨blk, _, none⟩) hbl).trans c0) ((hW.cell (p := ⟨blk, _, none⟩) hbl).trans c1) ((hW.cell (p := ⟨blk, _, none⟩) hbl).trans c2) ((hW.cell (p := ⟨blk, _, none⟩) hbl).trans c3) ((hW.cell (p := ⟨blk, _, none⟩) hbl).trans c4) ((hW.cell (p := ⟨blk, _, none⟩) hbl).trans c5) ((hW.cell (p := ⟨blk, _, none⟩) hbl).trans c6) ((hW.cell (p := ⟨blk, _, none⟩) hbl).trans c7))⟩) hS0 ?_
          simp only [Act.put, List.setIfInBounds_toArray, List.set_cons_zero, List.set_cons_succ]
          refine consR (fuel := 16) (i := 4) rfl (by kernel_rfl) (fun K hK => ?_)
          rw [if_pos (by rfl)]
          go_simp
          refine (HSH.out v0).mono ?_
          rintro e v1 ⟨rfl, hC⟩
          refine hK.out _ _ (hS0.trans (hC.mono hS0.size)) (fun hS1 => ?_)
          have hT1 : Below wr.heap.size wr v1 := hT0.trans (hC.mono hT0.size)
          clear hK hC
          try simp only [Act.put, List.setIfInBounds_toArray, List.set_cons_zero, List.set_cons_succ]
          refine takeR (fuel := 15) (i := 5) (v := .bool true) rfl (by kernel_rfl) (by kernel_rfl) (by kernel_rfl) (fun _ _ _ h => h) (Or.inl ⟨rfl, fun W hW => by go_simp⟩) hS1 ?_
          simp only [Act.put, List.setIfInBounds_toArray, List.set_cons_zero, List.set_cons_succ]
          refine takeR (fuel := 14) (i := 6) (v := .pointer (some ⟨c, 0, none⟩)) rfl (by kernel_rfl) (by kernel_rfl) (by kernel_rfl) (fun _ _ _ h => h) (Or.inl ⟨rfl, fun W hW => by go_simp⟩) hS1 ?_
          simp only [Act.put, List.setIfInBounds_toArray, List.set_cons_zero, List.set_cons_succ]
          refine takeR (fuel := 13) (i := 7) (v := .slice (some ⟨blk, off, none⟩) xs.length cap) rfl (by kernel_rfl) (by kernel_rfl) (by kernel_rfl) (fun _ _ _ h => h) (Or.inl ⟨rfl, fun W hW => by go_simp⟩) hS1 ?_
          simp only [Act.put, List.setIfInBounds_toArray, List.set_cons_zero, List.set_cons_succ]
          refine takeR (fuel := 12) (i := 8) (v := .int .i64 k) rfl (by kernel_rfl) (by kernel_rfl) (by kernel_rfl) (fun _ _ _ h => h) (Or.inl ⟨rfl, fun W hW => by go_simp⟩) hS1 ?_
          simp only [Act.put, List.setIfInBounds_toArray, List.set_cons_zero, List.set_cons_succ]
          refine takeR (fuel := 11) (i := 9) (v := .pointer (some ⟨blk, off + k * 8, none⟩)) rfl (by kernel_rfl) (by kernel_rfl) (by kernel_rfl) (fun _ _ _ h => h) (Or.inl ⟨rfl, fun W hW => by go_simp⟩) hS1 ?_
          simp only [Act.put, List.setIfInBounds_toArray, List.set_cons_zero, List.set_cons_succ]
          refine takeR (fuel := 10) (i := 10) (v := .agg #[.int .i64 k9, .int .i64 a, .int .i64 b, .int .i64 c9, .string s, .int .i64 n, .slice la l.length lc, .slice ta t.length tc]) rfl (by kernel_rfl) (by kernel_rfl) (by kernel_rfl) (fun _ _ _ h => h) (Or.inl ⟨rfl, fun W hW => exl _ _ _ _ rfl _ _ rfl (load30 W blk (off + k * 8) _ _ _ _ _ _ _ _ _ _ _ _ _ _ _ rfl rfl rfl rfl rfl rfl rfl ((hW.cell (p := ⟨blk, _, none⟩) hbl).trans c0) ((hW.cell (p := ⟨blk, _, none⟩) hbl).trans c1) ((hW.cell (p := ⟨blk, _, none⟩) hbl).trans c2) ((hW.cell (p := ⟨blk, _, none⟩) hbl).trans c3) ((hW.cell (p := ⟨blk, _, none⟩) hbl).trans c4) ((hW.cell (p := ⟨blk, _, none⟩) hbl).trans c5) ((hW.cell (p := ⟨blk, _, none⟩) hbl).trans c6) ((hW.cell (p := ⟨blk, _, none⟩) hbl).trans c7))⟩) hS1 ?_
          simp only [Act.put, List.setIfInBounds_toArray, List.set_cons_zero, List.set_cons_succ]
          refine consR (fuel := 9) (i := 11) rfl (by kernel_rfl) (fun K hK => ?_)
          rw [if_pos (by rfl)]
          go_simp
          refine (HDO.out v1 hT1).mono ?_
          rintro e v2 ⟨al2, cl2, rfl, HD⟩
          refine hK.out _ _ HD.out.b (fun hS2 => ?_)
          clear hK
          try simp only [Act.put, List.setIfInBounds_toArray, List.set_cons_zero, List.set_cons_succ]
          refine takeR (fuel := 8) (i := 12) (v := .bool false) rfl (by kernel_rfl) (by kernel_rfl) (by kernel_rfl) (fun _ _ _ h => h) (Or.inl ⟨rfl, fun W hW => by go_simp⟩) hS2 ?_
          simp only [Act.put, List.setIfInBounds_toArray, List.set_cons_zero, List.set_cons_succ]
          refine takeR (fuel := 7) (i := 13) (v := .bool false) rfl (by kernel_rfl) (by kernel_rfl) (by kernel_rfl) (fun _ _ _ h => h) (Or.inl ⟨rfl, fun W hW => by go_simp⟩) hS2 ?_
          simp only [Act.put, List.setIfInBounds_toArray, List.set_cons_zero, List.set_cons_succ]
          refine takeR (fuel := 6) (i := 14) (v := .pointer (some ⟨c, 0, none⟩)) rfl (by kernel_rfl) (by kernel_rfl) (by kernel_rfl) (fun _ _ _ h => h) (Or.inl ⟨rfl, fun W hW => by go_simp⟩) hS2 ?_
          simp only [Act.put, List.setIfInBounds_toArray, List.set_cons_zero, List.set_cons_succ]
          refine consR2 (fuel := 5) (i := 15) (j := 16) rfl rfl (by kernel_rfl) (fun K hK => ?_) (fun K hK => ?_)
          · rw [if_pos (by rfl)]
            go_simp
            refine (ds_told HD.out HL2.out.1 HL2.out.2.2).mono ?_
            rintro e v3 ⟨a3, c3, rfl, HD3⟩
            refine hK.out _ _ HD3.out.1.b (fun hS3 => ?_)
            clear hK
            try simp only [Act.put, List.setIfInBounds_toArray, List.set_cons_zero, List.set_cons_succ]
            refine consR (fuel := 4) (i := 16) rfl (by kernel_rfl) (fun K hK => ?_)
            rw [if_pos (by rfl)]
            have cj := HD3.out.1.p.cell 0
            simp only [List.getElem?_toArray, List.getElem?_cons_zero] at cj
            go_simp
            refine hK.out _ _ HD3.out.1.b (fun hS4 => ?_)
            clear hK
            try simp only [Act.put, List.setIfInBounds_toArray, List.set_cons_zero, List.set_cons_succ]
            refine consR (fuel := 3) (i := 17) rfl (by kernel_rfl) (fun K hK => ?_)
            rw [if_pos (by rfl)]
            go_simp
            refine (ds_same HD3.out.1 HL2.out.2.2 HD3.out.2.1).mono ?_
            rintro e v5 ⟨rfl, HD5⟩
            refine hK.out _ _ HD5.out.b (fun hS5 => ?_)
            clear hK
            try simp only [Act.put, List.setIfInBounds_toArray, List.set_cons_zero, List.set_cons_succ]
            refine takeR (fuel := 2) (i := 18) (v := .bool false) rfl (by kernel_rfl) (by kernel_rfl) (by kernel_rfl) (fun _ _ _ h => h) (Or.inl ⟨rfl, fun W hW => by go_simp⟩) hS5 ?_
            simp only [Act.put, List.setIfInBounds_toArray, List.set_cons_zero, List.set_cons_succ]
            refine takeR (fuel := 1) (i := 19) (v := .bool false) rfl (by kernel_rfl) (by kernel_rfl) (by kernel_rfl) (fun _ _ _ h => h) (Or.inl ⟨rfl, fun W hW => by go_simp⟩) hS5 ?_
            simp only [Act.put, List.setIfInBounds_toArray, List.set_cons_zero, List.set_cons_succ]
            refine takeR (fuel := 0) (i := 20) (v := .bool false) rfl (by kernel_rfl) (by kernel_rfl) (by kernel_rfl) (fun _ _ _ h => h) (Or.inl ⟨rfl, fun W hW => by go_simp⟩) hS5 ?_
            simp only [Act.put, List.setIfInBounds_toArray, List.set_cons_zero, List.set_cons_succ]
            refine wpAnyH_done (by kernel_rfl) ?_ _
            go_wp2_with fail
            go_roundw
            case rel => exact ⟨k + 1, L2, al2, cl2, by omega, by omega, by simp, HL2.out.1, HL2.out.2.1, HD5.out⟩
            case measure => simp [intOf]; omega
          · rw [if_pos (by rfl)]
            have cj := HD.out.p.cell 0
            simp only [List.getElem?_toArray, List.getElem?_cons_zero] at cj
            go_simp
            refine hK.out _ _ HD.out.b (fun hS4 => ?_)
            clear hK
            try simp only [Act.put, List.setIfInBounds_toArray, List.set_cons_zero, List.set_cons_succ]
            refine consR (fuel := 4) (i := 15) rfl (by kernel_rfl) (fun K hK => ?_)
            rw [if_pos (by rfl)]
            go_simp
            refine (ds_told HD.out HL2.out.1 HL2.out.2.2).mono ?_
            rintro e v3 ⟨a3, c3, rfl, HD3⟩
            refine hK.out _ _ HD3.out.1.b (fun hS3 => ?_)
            clear hK
            try simp only [Act.put, List.setIfInBounds_toArray, List.set_cons_zero, List.set_cons_succ]
            refine consR (fuel := 3) (i := 17) rfl (by kernel_rfl) (fun K hK => ?_)
            rw [if_pos (by rfl)]
            go_simp
            refine (ds_same HD3.out.1 HL2.out.2.2 HD3.out.2.1).mono ?_
            rintro e v5 ⟨rfl, HD5⟩
            refine hK.out _ _ HD5.out.b (fun hS5 => ?_)
            clear hK
            try simp only [Act.put, List.setIfInBounds_toArray, List.set_cons_zero, List.set_cons_succ]
            refine takeR (fuel := 2) (i := 18) (v := .bool false) rfl (by kernel_rfl) (by kernel_rfl) (by kernel_rfl) (fun _ _ _ h => h) (Or.inl ⟨rfl, fun W hW => by go_simp⟩) hS5 ?_
            simp only [Act.put, List.setIfInBounds_toArray, List.set_cons_zero, List.set_cons_succ]
            refine takeR (fuel := 1) (i := 19) (v := .bool false) rfl (by kernel_rfl) (by kernel_rfl) (by kernel_rfl) (fun _ _ _ h => h) (Or.inl ⟨rfl, fun W hW => by go_simp⟩) hS5 ?_
            simp only [Act.put, List.setIfInBounds_toArray, List.set_cons_zero, List.set_cons_succ]
            refine takeR (fuel := 0) (i := 20) (v := .bool false) rfl (by kernel_rfl) (by kernel_rfl) (by kernel_rfl) (fun _ _ _ h => h) (Or.inl ⟨rfl, fun W hW => by go_simp⟩) hS5 ?_
            simp only [Act.put, List.setIfInBounds_toArray, List.set_cons_zero, List.set_cons_succ]
            refine wpAnyH_done (by kernel_rfl) ?_ _
            go_wp2_with fail
            go_roundw
            case rel => exact ⟨k + 1, L2, al2, cl2, by omega, by omega, by simp, HL2.out.1, HL2.out.2.1, HD5.out⟩
            case measure => simp [intOf]; omega
      · have hk4' : ¬ (k : Int) < 40 := by omega
        have HAK : Hid (Calls Try.prog 14 #[] wr fun e w' => e = .returned (.bool true) ∧ Hid (OkP w (.returned (.bool true)) w')) := (xcawake wr).mono fun e w' kk => ⟨kk.1, rfl, HR.out.2.2.b.trans (kk.2.mono HR.out.2.2.b.size)⟩
        clear HR
        go_wp2_with (go_at_call 14; refine HAK.out.mono ?_; rintro e w5 ⟨rfl, HF⟩)
        go_ret
        exact HF.out
    · have hkz : ¬ (k : Int) < (xs.length : Int) := by omega
      have HAK : Hid (Calls Try.prog 14 #[] wr fun e w' => e = .returned (.bool true) ∧ Hid (OkP w (.returned (.bool true)) w')) := (xcawake wr).mono fun e w' kk => ⟨kk.1, rfl, HR.out.2.2.b.trans (kk.2.mono HR.out.2.2.b.size)⟩
      clear HR
      go_wp2_with (go_at_call 14; refine HAK.out.mono ?_; rintro e w5 ⟨rfl, HF⟩)
      go_ret
      exact HF.out
end Go.Proofs.Ytbfnfebmmhhegaa
