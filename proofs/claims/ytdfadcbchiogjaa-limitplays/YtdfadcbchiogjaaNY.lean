/- layer 16: the document's Add, Take -/
import Derived.Test.YtdfadcbchiogjaaNX
import Derived.Test.YtdfadcbchiogjaaNV
import Derived.WalkKit
import Derived.ProofKit
import Derived.Handy
import Derived.WalkLawsBesides
import Derived.WalkSpells
import Derived.BigQuiet
import Derived.BigCall
import Derived.Deep.QuietTactic
import Derived.Deep.Light
import Derived.Deep.OwnRows
import Derived.Laws.AppendOwnNone
import Derived.Laws.Strings3
import Derived.Laws.RangeAny
import Derived.Deep.RegionWith
import Derived.Lib.BitFns
import Derived.Lib.Walk
import Derived.Lib.Strings
import Derived.Lib.OthersKept
import Derived.Deep.CutBlock
import Derived.Deep.DeepCutAuto
import Derived.Deep.LoopGhost
import Derived.Deep.RegionHeld3
import Derived.Lib.SmallJoins
import Derived.Maps.AppendAt
import Derived.Laws.IdiomStrings
import Derived.Lib.AppendZeros
import Derived.Deep.WholeRow
import Derived.Laws.BitsAllLaws
import Derived.Lib.ConvBytes
import Derived.Deep.RegionLaw
import Derived.Maps.OwnSet
import Derived.Maps.OwnOps
import Derived.Maps.RangeWalk
import Derived.Maps.Ext
import Derived.DeepKeys4
import Derived.Laws.StructEq
import Derived.Deep.MidRow
import Derived.Lib.Bytealg
import Derived.Lib.AppendZerosOnto
import Derived.Laws.MakeOwn
import Derived.Deep.Upon
import Derived.Sort.KeysCollected
namespace Go.Proofs.Ytdfadcbchiogjaa
open Go.RowKit
set_option linter.unusedVariables false
set_option linter.unusedSimpArgs false
set_option maxRecDepth 20000
theorem res_cell2 {P : Program} (fn : Func) (tmps : Array Value) (a t b : Nat) (ad : Addr) (v u : Value) (w : World) (hf : fn.results = #[.cell a t, .tmp b]) (ht : tmps.getD a undef = .pointer (some ad)) (hu : tmps.getD b undef = u) (hl : (loadVar t ad).run P w = .ok v w) : (results fn tmps).run P w = .ok (.tuple #[v, u]) w := by
  have ht2 : tmps[a]?.getD undef = .pointer (some ad) := by simpa using ht
  have hu2 : tmps[b]?.getD undef = u := by simpa using hu
  simp [results, hf, ht2, hu2, asAddr, hl]
def RaP (T : Tb) (E : Int) (w : World) (e : Ending) (w' : World) : Prop := ∃ v', e = .returned (.tuple #[.agg (rtc T v').toArray, .int .i64 E]) ∧ Hid (Lo w' v' T.L ∧ Below w.heap.size w w')
theorem load35 {W : World} {b : Nat} {v0 v1 v2 v3 : Value} (h : Bx W b #[v0, v1, v2, v3] 35) : (loadVar 35 ⟨b, 0, none⟩).run Try.prog W = .ok (.agg #[v0, v1, v2, v3]) W := by
  have r0 : W.cell? ⟨b, 0, none⟩ = some v0 := h.cell 0
  have r1 : W.cell? ⟨b, 1, none⟩ = some v1 := h.cell 1
  have r2 : W.cell? ⟨b, 2, none⟩ = some v2 := h.cell 2
  have r3 : W.cell? ⟨b, 3, none⟩ = some v3 := h.cell 3
  go_simp
theorem set4 {W : World} {r : Nat} {a b c d v0 v1 v2 v3 : Value} (h : Bx W r #[a, b, c, d] 35) : Bx ((((W.setCell ⟨r, 0, none⟩ v0).setCell ⟨r, 1, none⟩ v1).setCell ⟨r, 2, none⟩ v2).setCell ⟨r, 3, none⟩ v3) r #[v0, v1, v2, v3] 35 := by
  have k4 := (((h.setc 0 v0).setc 1 v1).setc 2 v2).setc 3 v3
  simpa using k4
theorem set4_below {W : World} {B r : Nat} {w : World} {v0 v1 v2 v3 : Value} (h : Below B w W) (hr : B ≤ r) : Below B w ((((W.setCell ⟨r, 0, none⟩ v0).setCell ⟨r, 1, none⟩ v1).setCell ⟨r, 2, none⟩ v2).setCell ⟨r, 3, none⟩ v3) :=
  (((h.setCell (p := ⟨r, 0, none⟩) hr _).setCell (p := ⟨r, 1, none⟩) hr _).setCell (p := ⟨r, 2, none⟩) hr _).setCell (p := ⟨r, 3, none⟩) hr _
theorem bx_own {w : World} {B e k n g T : Nat} {v : Value} {cs : List Value} {xs : Array Value} (ho : w.ownsRow B e k v n cs) (hg : Bx w g xs T) (he : T ≠ e) : some g ≠ v.ownBlock := by
  rcases ho.2 with ⟨rfl, _⟩ | ⟨b, cap, cur, rfl, _, hb, _⟩
  · simp [Value.ownBlock]
  · intro k
    simp [Value.ownBlock] at k
    subst k
    unfold Bx at hg
    rw [hb] at hg
    injection hg with hg
    injection hg with _ h2 _
    exact he h2.symm
theorem set4_own {W : World} {B e k n r : Nat} {v v0 v1 v2 v3 : Value} {cs : List Value} {xs : Array Value} {T : Nat} (ho : W.ownsRow B e k v n cs) (hr : Bx W r xs T) (he : T ≠ e) : ((((W.setCell ⟨r, 0, none⟩ v0).setCell ⟨r, 1, none⟩ v1).setCell ⟨r, 2, none⟩ v2).setCell ⟨r, 3, none⟩ v3).ownsRow B e k v n cs := by
  have hn := bx_own ho hr he
  have s0 := own_grown ho (grown_set W r 0 v0) hn
  have s1 := own_grown s0 (grown_set _ r 1 v1) hn
  have s2 := own_grown s1 (grown_set _ r 2 v2) hn
  exact own_grown s2 (grown_set _ r 3 v3) hn
set_option maxHeartbeats 8000000 in
theorem radd {w : World} {v : Value} {T : Tb} {k : Nat} (h : Lo w v T.L) (g : Good T k) (hk : k ≤ 900) (a : As) {c : Int} (hc : Rng c) : Calls Try.prog 9 #[.agg (rtc T v).toArray, .agg (acs a).toArray, .int .i64 c] w (RaP (T.add a.iss a.i.data.toList c) (addE T a.iss a.i.data.toList c) w) := by
  obtain ⟨sa, sc, rfl, -⟩ := h.read
  obtain ⟨w1, hw1⟩ : ∃ w1, ((w.alloc (.cells (rtc T (.slice sa T.L.length sc)).toArray 35)).alloc (.cells (acs a).toArray 28)).alloc (.cells #[.int .i64 0, .int .i64 0, .int .i64 0, .slice none 0 0] 35) = w1 := ⟨_, rfl⟩
  have HB : Hid (Below w.heap.size w w1) := by rw [← hw1]; exact ((below_a w _).alloc (by simp) _).alloc (by simp; omega) _
  have hX : Bx w1 w.heap.size (rtc T (.slice sa T.L.length sc)).toArray 35 := by rw [← hw1]; exact ((Bx.new w _ _).below (below_a _ _) (by simp)).below (below_a _ _) (by simp; omega)
  have hY : Bx w1 (w.heap.size + 1) (acs a).toArray 28 := by rw [← hw1]; have := Bx.new (w.alloc (.cells (rtc T (.slice sa T.L.length sc)).toArray 35)) (acs a).toArray 28; rw [World.size_alloc] at this; exact this.below (below_a _ _) (by simp)
  have hZ : Bx w1 (w.heap.size + 1 + 1) #[.int .i64 0, .int .i64 0, .int .i64 0, .slice none 0 0] 35 := by rw [← hw1]; have := Bx.new ((w.alloc (.cells (rtc T (.slice sa T.L.length sc)).toArray 35)).alloc (.cells (acs a).toArray 28)) #[.int .i64 0, .int .i64 0, .int .i64 0, .slice none 0 0] 35; rw [World.size_alloc, World.size_alloc] at this; exact this
  have h1 : Lo w1 (.slice sa T.L.length sc) T.L := h.below HB.out
  have HX : Hid (∀ W, Below w1.heap.size w1 W → (W.cell? ⟨w.heap.size, 0, none⟩ = some (.int .i64 T.need) ∧ W.cell? ⟨w.heap.size, 1, none⟩ = some (.int .i64 T.li) ∧ W.cell? ⟨w.heap.size, 2, none⟩ = some (.int .i64 T.la) ∧ W.cell? ⟨w.heap.size, 3, none⟩ = some (.slice sa T.L.length sc)) ∧
      (W.cell? ⟨w.heap.size + 1, 0, none⟩ = some (.string a.i) ∧ W.cell? ⟨w.heap.size + 1, 1, none⟩ = some (.int .i64 a.iss) ∧ W.cell? ⟨w.heap.size + 1, 2, none⟩ = some (.int .i64 a.rat) ∧ W.cell? ⟨w.heap.size + 1, 3, none⟩ = some (.int .i64 a.mat) ∧ W.cell? ⟨w.heap.size + 1, 4, none⟩ = some (.string a.c)) ∧
      (W.cell? ⟨w.heap.size + 1 + 1, 0, none⟩ = some (.int .i64 0) ∧ W.cell? ⟨w.heap.size + 1 + 1, 1, none⟩ = some (.int .i64 0) ∧ W.cell? ⟨w.heap.size + 1 + 1, 2, none⟩ = some (.int .i64 0) ∧ W.cell? ⟨w.heap.size + 1 + 1, 3, none⟩ = some (.slice none 0 0)) ∧
      W.frozen? ⟨w.heap.size + 1 + 1, 0, none⟩ = false ∧ W.frozen? ⟨w.heap.size + 1 + 1, 1, none⟩ = false ∧ W.frozen? ⟨w.heap.size + 1 + 1, 2, none⟩ = false ∧ W.frozen? ⟨w.heap.size + 1 + 1, 3, none⟩ = false) := fun W hb => by
    have k1 := hX.below hb hX.lt
    have k2 := hY.below hb hY.lt
    have k3 := hZ.below hb hZ.lt
    exact ⟨⟨k1.cell 0, k1.cell 1, k1.cell 2, k1.cell 3⟩, ⟨k2.cell 0, k2.cell 1, k2.cell 2, k2.cell 3, k2.cell 4⟩, ⟨k3.cell 0, k3.cell 1, k3.cell 2, k3.cell 3⟩, k3.froz 0, k3.froz 1, k3.froz 2, k3.froz 3⟩
  have HF : Hid (∀ W (M : List Pt) (E : Int) ya n yc, Below w1.heap.size w1 W → Lo W (.slice ya n yc) M → n = M.length →
      (loadVar 35 ⟨w.heap.size + 1 + 1, 0, none⟩).run Try.prog ((((W.setCell ⟨w.heap.size + 1 + 1, 0, none⟩ (.int .i64 T.need)).setCell ⟨w.heap.size + 1 + 1, 1, none⟩ (.int .i64 T.li)).setCell ⟨w.heap.size + 1 + 1, 2, none⟩ (.int .i64 T.la)).setCell ⟨w.heap.size + 1 + 1, 3, none⟩ (.slice ya n yc)) = .ok (.agg #[.int .i64 T.need, .int .i64 T.li, .int .i64 T.la, .slice ya n yc]) ((((W.setCell ⟨w.heap.size + 1 + 1, 0, none⟩ (.int .i64 T.need)).setCell ⟨w.heap.size + 1 + 1, 1, none⟩ (.int .i64 T.li)).setCell ⟨w.heap.size + 1 + 1, 2, none⟩ (.int .i64 T.la)).setCell ⟨w.heap.size + 1 + 1, 3, none⟩ (.slice ya n yc)) ∧
      RaP { T with L := M } E w (.returned (.tuple #[.agg #[.int .i64 T.need, .int .i64 T.li, .int .i64 T.la, .slice ya n yc], .int .i64 E])) ((((W.setCell ⟨w.heap.size + 1 + 1, 0, none⟩ (.int .i64 T.need)).setCell ⟨w.heap.size + 1 + 1, 1, none⟩ (.int .i64 T.li)).setCell ⟨w.heap.size + 1 + 1, 2, none⟩ (.int .i64 T.la)).setCell ⟨w.heap.size + 1 + 1, 3, none⟩ (.slice ya n yc))) := fun W M E ya n yc hb ho hn => by
    have k3 := hZ.below hb hZ.lt
    exact ⟨load35 (set4 k3), _, rfl, set4_own ho k3 (by decide), set4_below (HB.out.trans (hb.mono HB.out.size)) (by omega)⟩
  have HR : Hid (Calls Try.prog 15 #[.agg (rtc T (.slice sa T.L.length sc)).toArray, .agg (acs a).toArray] w1 (RmP (T.room a.iss a.i.data.toList) w1)) := rroom h1 g (by omega)
  have HW : Hid (∀ W, Below w1.heap.size w1 W → Calls Try.prog 26 #[.agg (rtc T (.slice sa T.L.length sc)).toArray, .agg (acs a).toArray, .int .i64 c] W (WiP T.need T.li T.la (T.L ++ [⟨a.iss, a.i.data.toList, c⟩]) W)) := fun W hb => rwith (h1.below hb) (by have := g.l; omega) a c T.need T.li T.la
  have HL0 : Hid (Lo w1 (.slice sa T.L.length sc) T.L) := h1
  obtain ⟨⟨x0, x1, x2, x3⟩, ⟨y0, y1, y2, y3, y4⟩, ⟨z0, z1, z2, z3⟩, f0, f1, f2, f3⟩ := HX.out w1 (Below.refl _ _)
  rw [add_eq]
  by_cases h0 : c < 0
  · have he : addE T a.iss a.i.data.toList c = 1 := by unfold addE; rw [if_pos h0]
    rw [he]
    simp only [Nat.one_ne_zero, if_false]
    obtain ⟨i, iss, rat, mat, cc⟩ := a
    simp only [acs, rtc] at *
    clear h h1 hX hY hZ g he HR HW
    go_enter Try.func9, Try.ntmps9
    go_wp2_with fail
    obtain ⟨q1, q2⟩ := HF.out w1 T.L 1 sa T.L.length sc (Below.refl _ _) HL0.out rfl
    refine bodyPost_ret (res_cell2 _ _ 6 35 7 ⟨w.heap.size + 1 + 1, 0, none⟩ _ _ _ rfl rfl rfl q1) rfl ?_
    exact q2
  · by_cases h2 : T.room a.iss a.i.data.toList < c
    · have he : addE T a.iss a.i.data.toList c = 24 := by unfold addE; rw [if_neg h0, if_pos h2]
      rw [he]
      simp only [show ¬ (24 : Nat) = 0 by decide, if_false]
      obtain ⟨i, iss, rat, mat, cc⟩ := a
      simp only [acs, rtc] at *
      clear h h1 hX hY hZ g he HW
      generalize T.room iss i.data.toList = R at *
      go_enter Try.func9, Try.ntmps9
      go_wp2_with (go_at_call 15; refine HR.out.mono ?_; clear HR; rintro e w2 ⟨rfl, b2⟩; have HB2 : Hid (Below w1.heap.size w1 w2) := b2; clear b2 x0 x1 x2 x3 y0 y1 y2 y3 y4 z0 z1 z2 z3 f0 f1 f2 f3; obtain ⟨⟨x0, x1, x2, x3⟩, ⟨y0, y1, y2, y3, y4⟩, ⟨z0, z1, z2, z3⟩, f0, f1, f2, f3⟩ := HX.out w2 HB2.out)
      obtain ⟨q1, q2⟩ := HF.out w2 T.L 24 sa T.L.length sc HB2.out (HL0.out.below HB2.out) rfl
      refine bodyPost_ret (res_cell2 _ _ 6 35 7 ⟨w.heap.size + 1 + 1, 0, none⟩ _ _ _ rfl rfl rfl q1) rfl ?_
      exact q2
    · have he : addE T a.iss a.i.data.toList c = 0 := by unfold addE; rw [if_neg h0, if_neg h2]
      rw [he]
      simp only [if_true]
      obtain ⟨i, iss, rat, mat, cc⟩ := a
      simp only [acs, rtc] at *
      unfold Tb.more
      generalize hM : T.L ++ [(⟨iss, i.data.toList, c⟩ : Pt)] = M at *
      clear h h1 hX hY hZ g he hM
      generalize T.room iss i.data.toList = R at *
      go_enter Try.func9, Try.ntmps9
      go_wp2_with (first
        | (go_at_call 15; refine HR.out.mono ?_; clear HR; rintro e w2 ⟨rfl, b2⟩; have HB2 : Hid (Below w1.heap.size w1 w2) := b2; clear b2 x0 x1 x2 x3 y0 y1 y2 y3 y4 z0 z1 z2 z3 f0 f1 f2 f3; obtain ⟨⟨x0, x1, x2, x3⟩, ⟨y0, y1, y2, y3, y4⟩, ⟨z0, z1, z2, z3⟩, f0, f1, f2, f3⟩ := HX.out w2 HB2.out)
        | (go_at_call 26; refine (HW.out w2 HB2.out).mono ?_; clear HW; rintro e w3 ⟨v3, rfl, HV⟩
           obtain ⟨ya, yc, rfl, -⟩ := own_read HV.out.1 HV.out.1.1
           have HB3 : Hid (Below w1.heap.size w1 w3) := HB2.out.trans (HV.out.2.mono HB2.out.size)
           clear x0 x1 x2 x3 y0 y1 y2 y3 y4 z0 z1 z2 z3 f0 f1 f2 f3; obtain ⟨⟨x0, x1, x2, x3⟩, ⟨y0, y1, y2, y3, y4⟩, ⟨z0, z1, z2, z3⟩, f0, f1, f2, f3⟩ := HX.out w3 HB3.out))
      obtain ⟨q1, q2⟩ := HF.out w3 M 0 ya M.length yc HB3.out HV.out.1 rfl
      refine bodyPost_ret (res_cell2 _ _ 6 35 7 ⟨w.heap.size + 1 + 1, 0, none⟩ _ _ _ rfl rfl rfl q1) rfl ?_
      exact q2
end Go.Proofs.Ytdfadcbchiogjaa
