/- layer 16: Over of the document -/
import Derived.Test.YtdfadcbchiogjaaGreatPB
import Derived.Test.YtdfadcbchiogjaaGreatPC
import Derived.Test.YtdfadcbchiogjaaGreatOA
import Derived.WalkKit
import Derived.ProofKit
import Derived.Handy
import Derived.WalkLawsBesides
import Derived.WalkSpells
import Derived.BigQuiet
import Derived.BigCall
import Derived.Deep.QuietTactic
import Derived.Deep.Light
import Derived.Deep.OwnRows
import Derived.Laws.AppendOwnNone
import Derived.Laws.Strings3
import Derived.Laws.RangeAny
import Derived.Deep.RegionWith
import Derived.Lib.BitFns
import Derived.Lib.Walk
import Derived.Lib.Strings
import Derived.Lib.OthersKept
import Derived.Deep.CutBlock
import Derived.Deep.DeepCutAuto
import Derived.Deep.LoopGhost
import Derived.Deep.RegionHeld3
import Derived.Lib.SmallJoins
import Derived.Maps.AppendAt
import Derived.Laws.IdiomStrings
import Derived.Lib.AppendZeros
import Derived.Deep.WholeRow
import Derived.Laws.BitsAllLaws
import Derived.Lib.ConvBytes
import Derived.Deep.RegionLaw
import Derived.Maps.OwnSet
import Derived.Maps.OwnOps
import Derived.Maps.RangeWalk
import Derived.Maps.Ext
import Derived.DeepKeys4
import Derived.Laws.StructEq
import Derived.Deep.MidRow
import Derived.Lib.Bytealg
import Derived.Lib.AppendZerosOnto
import Derived.Laws.MakeOwn
import Derived.Deep.Upon
import Derived.Sort.KeysCollected
namespace Go.Proofs.YtdfadcbchiogjaaGreat
open Go.RowKit
set_option linter.unusedVariables false
set_option linter.unusedSimpArgs false
set_option maxRecDepth 20000
/-- a table of the document's in memory at r -/
structure Rt (w0 W : World) (r : Nat) (T : Tb) : Prop where
  b : ∃ a c, Bx W r (rtc T (.slice a T.L.length c)).toArray 65 ∧ Lo W (.slice a T.L.length c) T.L
  k : Below w0.heap.size w0 W
  l : w0.heap.size ≤ r
theorem Rt.lt {w0 W : World} {r : Nat} {T : Tb} (h : Rt w0 W r T) : r < W.heap.size := by
  obtain ⟨a, c, hb, _⟩ := h.b
  exact hb.lt
theorem Rt.below {w0 W W' : World} {r : Nat} {T : Tb} (h : Rt w0 W r T) (hb : Below W.heap.size W W') : Rt w0 W' r T := by
  obtain ⟨a, c, h1, h2⟩ := h.b
  exact ⟨⟨a, c, h1.below hb h1.lt, h2.below hb⟩, h.k.trans (hb.mono h.k.size), h.l⟩
abbrev st4 (W : World) (r : Nat) (v0 v1 v2 v3 : Value) : World := (((W.setCell ⟨r, 0, none⟩ v0).setCell ⟨r, 1, none⟩ v1).setCell ⟨r, 2, none⟩ v2).setCell ⟨r, 3, none⟩ v3
/-- the table's next state: with, then the store -/
theorem rstep {w0 wr W : World} {r : Nat} {T : Tb} {sa : Option Addr} {sc : Nat} (hk : Below w0.heap.size w0 wr) (hl0 : w0.heap.size ≤ r) (h1 : Bx wr r (rtc T (.slice sa T.L.length sc)).toArray 65) (h2 : Lo wr (.slice sa T.L.length sc) T.L) (hl : T.L.length ≤ 100000) (a : As) (C : Int) (hb : Below wr.heap.size wr W) {T' : Tb} (hT : T.more a.iss a.i.data.toList C = T') :
    Calls Tryz.prog 23 #[.agg #[.int .i64 T.need, .int .i64 T.li, .int .i64 T.la, .slice sa T.L.length sc], .agg (acs a).toArray, .int .i64 C] W fun e w7 => ∃ y, e = .returned y ∧ ∃ ya yc, y = .agg #[.int .i64 T'.need, .int .i64 T'.li, .int .i64 T'.la, .slice ya T'.L.length yc] ∧
      (w7.cell? ⟨r, 0, none⟩ = some (.int .i64 T.need) ∧ w7.cell? ⟨r, 1, none⟩ = some (.int .i64 T.li) ∧ w7.cell? ⟨r, 2, none⟩ = some (.int .i64 T.la) ∧ w7.cell? ⟨r, 3, none⟩ = some (.slice sa T.L.length sc)) ∧
      (w7.frozen? ⟨r, 0, none⟩ = false ∧ w7.frozen? ⟨r, 1, none⟩ = false ∧ w7.frozen? ⟨r, 2, none⟩ = false ∧ w7.frozen? ⟨r, 3, none⟩ = false) ∧
      Hid (∀ Z, st4 w7 r (.int .i64 T'.need) (.int .i64 T'.li) (.int .i64 T'.la) (.slice ya T'.L.length yc) = Z → Rt w0 Z r T') := by
  refine (rwith (h2.below hb) hl a C T.need T.li T.la).mono fun e w7 hh => ?_
  obtain ⟨v', rfl, hz⟩ := hh
  obtain ⟨hlo, hb7⟩ := hz.out
  have hbb : Below wr.heap.size wr w7 := hb.trans (hb7.mono hb.size)
  have hx := h1.below hbb h1.lt
  obtain ⟨ya, yc, rfl, -⟩ := own_read hlo hlo.1
  have eL : T'.L = T.L ++ [⟨a.iss, a.i.data.toList, C⟩] := by rw [← hT]; rfl
  have en : T'.need = T.need ∧ T'.li = T.li ∧ T'.la = T.la := by rw [← hT]; exact ⟨rfl, rfl, rfl⟩
  rw [← eL] at hlo ⊢
  rw [en.1, en.2.1, en.2.2]
  refine ⟨_, rfl, ya, yc, rfl, ⟨hx.cell 0, hx.cell 1, hx.cell 2, hx.cell 3⟩, ⟨hx.froz 0, hx.froz 1, hx.froz 2, hx.froz 3⟩, fun Z hZ => ?_⟩
  subst hZ
  refine ⟨⟨ya, yc, ?_, set4_own hlo hx (by decide)⟩, set4_below (hk.trans (hbb.mono hk.size)) hl0, hl0⟩
  have := set4 (v0 := .int .i64 T.need) (v1 := .int .i64 T.li) (v2 := .int .i64 T.la) (v3 := .slice ya T'.L.length yc) hx
  unfold rtc
  rw [en.1, en.2.1, en.2.2]
  exact this
theorem rt_new (w0 w1 : World) (hk : Below w0.heap.size w0 w1) (T : Tb) (hT : T.L = []) : Rt w0 (w1.alloc (.cells #[.int .i64 T.need, .int .i64 T.li, .int .i64 T.la, .slice none 0 0] 65)) w1.heap.size T := by
  refine ⟨⟨none, 0, ?_, ?_⟩, hk.alloc hk.size _, hk.size⟩
  · rw [hT]
    exact Bx.new w1 _ _
  · rw [hT]
    exact World.ownsRow_nil _ _ _ _
theorem cov_tk (xs : List H5.It) (k : Nat) : (cov xs).take k = cov (xs.take k) := by unfold cov; rw [List.map_take]
set_option maxHeartbeats 32000000 in
theorem rover (x : Bq) (need : Int) (xs : List H5.It) (hx : ∀ y ∈ xs, WI y) (a : Option Addr) (cap : Nat) (w : World) (hp : Rw 9 H5.its w a xs) (hl : xs.length ≤ 1000000) : Calls Tryz.prog 7 #[.agg (bqs x).toArray, .int .i64 need, .slice a xs.length cap] w (OvP 70 (ovL need x.iss x.ast xs) (ovE need x.iss x.ast xs) w) := by
  obtain ⟨w1, hw1⟩ : ∃ w1, w.alloc (.cells (bqs x).toArray 25) = w1 := ⟨_, rfl⟩
  have hX : Bx w1 w.heap.size (bqs x).toArray 25 := by rw [← hw1]; exact Bx.new w _ _
  have HB : Hid (Below w.heap.size w w1) := by rw [← hw1]; exact below_a w _
  have x0 := hX.cell 0
  have x1 := hX.cell 1
  have x2 := hX.cell 2
  have x3 := hX.cell 3
  have x4 := hX.cell 4
  have x5 := hX.cell 5
  have x6 := hX.cell 6
  have x7 := hX.cell 7
  have x8 := hX.cell 8
  have x9 := hX.cell 9
  have hlz : (xs.length : Int) ≤ 1000000 := by omega
  have hN := rnew x need w1
  obtain ⟨id, ver, cur, rat, least, most, ca, cn, cc, iss, ast, ba, bn, bc⟩ := x
  simp only [bqs] at *
  simp only [List.getElem?_toArray, List.getElem?_cons_zero, List.getElem?_cons_succ] at x0 x1 x2 x3 x4 x5 x6 x7 x8 x9
  clear hX
  by_cases hok : OkN need iss ast
  · have HN : Hid (Calls Tryz.prog 21 #[.agg #[.int .i64 id, .int .i64 ver, .string cur, .int .i64 rat, .int .i64 least, .int .i64 most, .slice ca cn cc, .int .i64 iss, .int .i64 ast, .slice ba bn bc], .int .i64 need] w1 (RnP need (prt need iss) (prt need ast) 0 w1)) := hN.mono fun e w' h => h.1 hok
    clear hN
    by_cases h64 : xs.length ≤ 64
    · have h64z : (xs.length : Int) ≤ 64 := by omega
      have HGd : Hid (Fits xs → ovL need iss ast xs = ovs (ovT need iss ast xs) ∧ ovE need iss ast xs = 0) := fun hf => ov_good hok h64 hf
      have HOv : Hid (¬ Fits xs → ovL need iss ast xs = [] ∧ ovE need iss ast xs = 9) := fun hf => ov_over hok h64 hf
      have HP : Hid (Rw 9 H5.its w a xs) := hp
      have HX : Hid (∀ y ∈ xs, WI y) := hx
      have HR0 : Hid (∀ w2, Below w1.heap.size w1 w2 → Rt w (w2.alloc (.cells #[.int .i64 need, .int .i64 (prt need iss), .int .i64 (prt need ast), .slice none 0 0] 65)) w2.heap.size (ovT need iss ast (xs.take 0))) := fun w2 h2 => rt_new w w2 (HB.out.trans (h2.mono HB.out.size)) (ovT need iss ast (xs.take 0)) rfl
      clear hok hp hx
      go_enter Tryz.func7, Tryz.ntmps7
      go_upto_region 2 with (go_at_call 21; refine HN.out.mono ?_; clear HN; rintro e w2 ⟨rfl, HB2⟩)
      obtain ⟨W0, hW0⟩ : ∃ W0, w2.alloc (.cells #[.int .i64 need, .int .i64 (prt need iss), .int .i64 (prt need ast), .slice none 0 0] 65) = W0 := ⟨_, rfl⟩
      have HS0 : Hid (Rt w W0 w2.heap.size (ovT need iss ast (xs.take 0))) := by rw [← hW0]; exact HR0.out w2 HB2.out
      try rw [hW0]
      clear hW0 HR0 HB2 x0 x1 x2 x3 x4 x5 x6 x7 x8 x9
      generalize w2.heap.size = r at *
      go_wp2_with fail
      go_loopw [10] (fun i wr => ∃ k : Nat, k ≤ xs.length ∧ i = .int .i64 k ∧ Hid (Rt w wr r (ovT need iss ast (xs.take k)) ∧ Fits (xs.take k)))
        (fun i _ => xs.length - (intOf i).toNat)
      case atStart => exact ⟨0, Nat.zero_le _, rfl, HS0.out, fun y hy => (by simp at hy)⟩
      case round =>
        obtain ⟨k, hk, rfl, HR⟩ := hrel
        clear HS0
        by_cases hkn : k < xs.length
        · have hkz : (k : Int) < (xs.length : Int) := by omega
          obtain ⟨blk, off, rfl, hbl, hcs⟩ := HP.out (by omega)
          have hc9 := its_at hcs HR.out.1.k hbl hkn
          have hblr : blk < wr.heap.size := Nat.lt_of_lt_of_le hbl HR.out.1.k.size
          have HM : Hid (Below w.heap.size w wr) := HR.out.1.k
          have hwi := HX.out _ (List.getElem_mem hkn)
          have HV : Hid (∀ W, Below wr.heap.size wr W → Calls Tryz.prog 22 #[.agg (H5.its xs[k]).toArray] W fun e w' => e = .returned (.int .i64 xs[k].co) ∧ Hid (Below wr.heap.size wr w')) := fun W hb =>
            (H5.ricov xs[k] hwi.c W).mono fun e w' hh => ⟨hh.1, hb.trans (hh.2.mono hb.size)⟩
          have HFt : Hid (xs[k].co ≤ 1125899906842624 → Fits (xs.take (k + 1))) := fun hc => fits_succ hkn HR.out.2 hc
          have HNf : Hid (¬ xs[k].co ≤ 1125899906842624 → ovL need iss ast xs = [] ∧ ovE need iss ast xs = 9) := fun hc => HOv.out (fun hf => hc (hf _ (List.getElem_mem hkn)))
          have hmr := ovT_more need iss ast hkn
          have hTl : (ovT need iss ast (xs.take k)).L.length ≤ 100000 := by show (cov _).length ≤ _; rw [cov_len, List.length_take]; omega
          have hco := H5.It.co_rng xs[k]
          have hrt := HR.out.1
          generalize ovT need iss ast (xs.take k) = T at *
          generalize hTe : ovT need iss ast (xs.take (k + 1)) = T' at *
          have HTe : Hid (ovT need iss ast (xs.take (k + 1)) = T') := hTe
          clear hTe
          generalize xs[k].co = C at *
          generalize xs[k] = y at *
          obtain ⟨yl, yq, ⟨ai, a1, a2, a3, ac⟩, yp, yc⟩ := y
          simp only [H5.its] at *
          obtain ⟨sa, sc, hb1, hb2⟩ := hrt.b
          have HA : Hid (∀ W, Below wr.heap.size wr W → (W.cell? ⟨r, 0, none⟩ = some (.int .i64 T.need) ∧ W.cell? ⟨r, 1, none⟩ = some (.int .i64 T.li) ∧ W.cell? ⟨r, 2, none⟩ = some (.int .i64 T.la) ∧ W.cell? ⟨r, 3, none⟩ = some (.slice sa T.L.length sc)) ∧
              (W.cell? ⟨blk, off + k * 9, none⟩ = some (.string yl) ∧ W.cell? ⟨blk, off + k * 9 + 1, none⟩ = some (.int .i64 yq) ∧ W.cell? ⟨blk, off + k * 9 + 2, none⟩ = some (.string ai) ∧ W.cell? ⟨blk, off + k * 9 + 3, none⟩ = some (.int .i64 a1) ∧ W.cell? ⟨blk, off + k * 9 + 4, none⟩ = some (.int .i64 a2) ∧ W.cell? ⟨blk, off + k * 9 + 5, none⟩ = some (.int .i64 a3) ∧ W.cell? ⟨blk, off + k * 9 + 6, none⟩ = some (.string ac) ∧ W.cell? ⟨blk, off + k * 9 + 7, none⟩ = some (.int .i64 yp) ∧ W.cell? ⟨blk, off + k * 9 + 8, none⟩ = some (.int .i64 yc))) := fun W hb => by
            have hx := hb1.below hb hb1.lt
            have hcc (i : Nat) (h : i < 9) : W.cell? ⟨blk, off + k * 9 + i, none⟩ = _ := (hb.cell (p := ⟨blk, off + k * 9 + i, none⟩) hblr).trans (hc9 i h)
            exact ⟨⟨hx.cell 0, hx.cell 1, hx.cell 2, hx.cell 3⟩, hcc 0 (by omega), hcc 1 (by omega), hcc 2 (by omega), hcc 3 (by omega), hcc 4 (by omega), hcc 5 (by omega), hcc 6 (by omega), hcc 7 (by omega), hcc 8 (by omega)⟩
          have HW := hid_in (fun W hb => rstep (W := W) hrt.k hrt.l hb1 hb2 hTl ⟨ai, a1, a2, a3, ac⟩ C hb (T' := T') hmr)
          have c0 : wr.cell? ⟨blk, off + k * 9, none⟩ = some (.string yl) := hc9 0 (by omega)
          have c1 : wr.cell? ⟨blk, off + k * 9 + 1, none⟩ = some (.int .i64 yq) := hc9 1 (by omega)
          have c2 : wr.cell? ⟨blk, off + k * 9 + 2, none⟩ = some (.string ai) := hc9 2 (by omega)
          have c3 : wr.cell? ⟨blk, off + k * 9 + 3, none⟩ = some (.int .i64 a1) := hc9 3 (by omega)
          have c4 : wr.cell? ⟨blk, off + k * 9 + 4, none⟩ = some (.int .i64 a2) := hc9 4 (by omega)
          have c5 : wr.cell? ⟨blk, off + k * 9 + 5, none⟩ = some (.int .i64 a3) := hc9 5 (by omega)
          have c6 : wr.cell? ⟨blk, off + k * 9 + 6, none⟩ = some (.string ac) := hc9 6 (by omega)
          have c7 : wr.cell? ⟨blk, off + k * 9 + 7, none⟩ = some (.int .i64 yp) := hc9 7 (by omega)
          have c8 : wr.cell? ⟨blk, off + k * 9 + 8, none⟩ = some (.int .i64 yc) := hc9 8 (by omega)
          simp only [acs] at HW
          have HV1 := hid_in (HV.out wr (Below.refl _ _))
          clear hc9 hcs HR HX HP hrt hb1 hb2 hTl hmr hwi
          by_cases hC : C ≤ 1125899906842624
          · have HF1 : Hid (Fits (xs.take (k + 1))) := HFt.out hC
            clear HNf HFt HOv HGd
            have HC2 : Hid (∀ W, Below wr.heap.size wr W → Calls Tryz.prog 22 #[.agg #[.string yl, .int .i64 yq, .string ai, .int .i64 a1, .int .i64 a2, .int .i64 a3, .string ac, .int .i64 yp, .int .i64 yc]] W.drew fun e w6 => ∃ y, e = .returned y ∧ (y = .int .i64 C ∧ Hid (Below wr.heap.size wr w6))) := fun W hb => (HV.out W.drew hb.drew).mono fun e w6 hh => ⟨_, hh.1, rfl, hh.2⟩
            go_upto_region 11 with (go_at_call 22; refine HV1.out.mono ?_; clear HV1 c0 c1 c2 c3 c4 c5 c6 c7 c8; rintro e w5 ⟨rfl, HB5⟩; obtain ⟨⟨e0, e1, e2, e3⟩, c0, c1, c2, c3, c4, c5, c6, c7, c8⟩ := HA.out w5 HB5.out; have HC3 := hid_in (HC2.out w5 HB5.out); clear HC2 HV HB5)
            go_region_law (first
              | (refine step_call _ (by rfl) 22 #[.agg #[.string yl, .int .i64 yq, .string ai, .int .i64 a1, .int .i64 a2, .int .i64 a3, .string ac, .int .i64 yp, .int .i64 yc]] (by go_simp) _ HC3.out ?_; clear HC3; rintro v9 w6 ⟨rfl, HB6⟩; obtain ⟨⟨f0, f1, f2, f3⟩, d0, d1, d2, d3, d4, d5, d6, d7, d8⟩ := HA.out w6 HB6.out; have HW6 := hid_in (HW.out w6 HB6.out); clear HW)
              | (refine step_call _ (by rfl) 23 #[.agg #[.int .i64 T.need, .int .i64 T.li, .int .i64 T.la, .slice sa T.L.length sc], .agg #[.string ai, .int .i64 a1, .int .i64 a2, .int .i64 a3, .string ac], .int .i64 C] (by go_simp) _ HW6.out ?_; clear HW6; rintro v8 w7 ⟨ya, yc2, rfl, ⟨k0, k1, k2, k3⟩, ⟨q0, q1, q2, q3⟩, HZ⟩))
            all_goals
              go_wp2_with fail
              go_roundw
              case rel => exact ⟨k + 1, by omega, by simp, (by rw [HTe.out]; exact HZ.out _ rfl), HF1.out⟩
              case measure => simp [intOf]; omega
          · have HE : Hid (ovL need iss ast xs = [] ∧ ovE need iss ast xs = 9) := HNf.out hC
            clear HNf HFt HOv HW HGd HA HV
            go_wp2_with (go_at_call 22; refine HV1.out.mono ?_; clear HV1; rintro e w5 ⟨rfl, HB5⟩)
            go_ret2
            rw [HE.out.1, HE.out.2]
            exact OvP.nil (HM.out.trans (HB5.out.mono HM.out.size))
        · have hkz : ¬ (k : Int) < (xs.length : Int) := by omega
          have e : k = xs.length := by omega
          have hr := HR.out
          rw [e, List.take_length] at hr
          obtain ⟨r1, r3⟩ := hr
          obtain ⟨sa, sc, hb1, hb2⟩ := r1.b
          have hbx (j : Nat) := fits_box (fits_take r3 j) (by rw [List.length_take]; omega)
          have HU : Hid (Calls Tryz.prog 24 #[.agg #[.int .i64 need, .int .i64 (prt need iss), .int .i64 (prt need ast), .slice sa (ovT need iss ast xs).L.length sc]] wr (UsP 70 4 ucs (ovT need iss ast xs).uses wr)) := ruses hb2 (by show (cov _).length ≤ _; rw [cov_len]; omega)
            (fun n j => by show Rng (smI ((cov xs).take j) n); rw [cov_tk]; have := (hbx j).1 n; unfold Rng; omega) (fun s j => by show Rng (smA ((cov xs).take j) s); rw [cov_tk]; have := (hbx j).2 s; unfold Rng; omega) (Wx.s HX.out)
          have HL : Hid ((ovT need iss ast xs).uses.length ≤ 1000000) := by
            have := uses_few (t := ovT need iss ast xs) (n := 64) (by show (cov _).length ≤ _; rw [cov_len]; omega)
            unfold Hid
            omega
          have hE := HGd.out r3
          have HBw : Hid (Below w.heap.size w wr) := r1.k
          obtain ⟨F, hF⟩ : ∃ F, F = (ovT need iss ast xs).uses.filter qOf := ⟨_, rfl⟩
          have HE2 : Hid (ovL need iss ast xs = F ∧ ovE need iss ast xs = 0) := ⟨by rw [hE.1, hF]; rfl, hE.2⟩
          have HFq : Hid (F = (ovT need iss ast xs).uses.filter qOf) := hF
          have e0 : wr.cell? ⟨r, 0, none⟩ = some (.int .i64 need) := hb1.cell 0
          have e1 : wr.cell? ⟨r, 1, none⟩ = some (.int .i64 (prt need iss)) := hb1.cell 1
          have e2 : wr.cell? ⟨r, 2, none⟩ = some (.int .i64 (prt need ast)) := hb1.cell 2
          have e3 : wr.cell? ⟨r, 3, none⟩ = some (.slice sa (ovT need iss ast xs).L.length sc) := hb1.cell 3
          clear hb1 hb2 hbx r1 r3 HR HGd HOv hE HP HX hF e
          generalize (ovT need iss ast xs).L.length = n3 at *
          generalize (ovT need iss ast xs).uses = U at *
          go_upto_region 13 with (go_at_call 24; refine HU.out.mono ?_; clear HU; rintro e w3 ⟨v3, rfl, H3⟩)
          obtain ⟨ua, uc, rfl, -, hur⟩ := own_rw ucs_len H3.out.1 rfl
          have HUr : Hid (Rw 4 ucs w3 ua U ∧ Below w.heap.size w w3) := ⟨hur, HBw.out.trans (H3.out.2.mono HBw.out.size)⟩
          have hUz : (U.length : Int) ≤ 1000000 := by have := HL.out; omega
          clear hur H3 HBw e0 e1 e2 e3
          go_wp2_with fail
          go_loopw [12, 13] (fun v i wx => ∃ j : Nat, j ≤ U.length ∧ i = .int .i64 j ∧ Hid (wx.ownsRow w3.heap.size 70 4 v ((U.take j).filter qOf).length (rcs ucs ((U.take j).filter qOf)) ∧ Below w3.heap.size w3 wx))
            (fun _ i _ => U.length - (intOf i).toNat)
          case atStart => exact ⟨0, Nat.zero_le _, rfl, World.ownsRow_nil _ _ _ _, Below.refl _ _⟩
          case round =>
            obtain ⟨j, hj, rfl, HO⟩ := hrel
            by_cases hjn : j < U.length
            · have hjz : (j : Int) < (U.length : Int) := by omega
              obtain ⟨blk, off, rfl, hbl, hcs⟩ := HUr.out.1 (by omega)
              obtain ⟨c0, c1, c2, c3⟩ := ucs_at hcs HO.out.2 hbl hjn
              have hfs := filt_snoc U hjn
              have hql := (List.length_filter_le qOf (U.take j))
              rw [List.length_take] at hql
              by_cases hov : U[j].l < U[j].c
              · have hk : usK U[j] = false := by have := usK_not U[j]; simpa [hov] using this
                rw [hk, if_neg (by simp)] at hfs
                obtain ⟨v', w7, hr, ho, hg⟩ := app_gen (T := 70) (Sl := 34) (k := 4) (bytes := 40) Tryz.underlying34 info77 rfl (by omega) (ucs U[j]) rfl (ucs_one _) (own_drew HO.out.1) HO.out.2.size (by omega) (by unfold maxLen; omega)
                have hr' : (Builtin.append_ #[34, 34] 34 #[u12, .slice (some ⟨wr.heap.size, 0, none⟩) 1 1]).run Tryz.prog (wr.drew.alloc (.cells #[.int .i64 U[j].i, .string ⟨U[j].s.toArray⟩, .int .i64 U[j].c, .int .i64 U[j].l] 70)) = .ok v' w7 := hr
                have HY : Hid (w7.ownsRow w3.heap.size 70 4 v' ((U.take (j + 1)).filter qOf).length (rcs ucs ((U.take (j + 1)).filter qOf)) ∧ Below w3.heap.size w3 w7) := by
                  rw [hfs, rcs_snoc, List.length_append]
                  exact ⟨ho, ((HO.out.2.drew).alloc HO.out.2.size _).grown hg (by have := HO.out.2.size; simp; omega) (fun j hj => (HO.out.1.lt j hj).1)⟩
                clear hcs HO hr ho hg hbl hfs hk hql
                generalize U[j] = x at *
                obtain ⟨xi, xs', xc, xl⟩ := x
                simp only at *
                generalize (⟨xs'.toArray⟩ : ByteArray) = s at *
                have hdz : decide (xl < xc) = true := decide_eq_true hov
                go_wp2_with fail
                go_region_law fail
                all_goals
                  go_wp2_with (at_builtin; refine Lib.wpList_append_run _ rfl _ _ 34 34 rfl _ _ rfl rfl _ w7 hr' ?_)
                  go_roundw
                  case rel => exact ⟨j + 1, by omega, by simp, HY.out⟩
                  case measure => simp [intOf]; omega
              · have hk : usK U[j] = true := by have := usK_not U[j]; simpa [hov] using this
                rw [hk, if_pos rfl, List.append_nil] at hfs
                have HY : Hid (∀ W, Below wr.heap.size wr W → W.ownsRow w3.heap.size 70 4 u12 ((U.take (j + 1)).filter qOf).length (rcs ucs ((U.take (j + 1)).filter qOf)) ∧ Below w3.heap.size w3 W) := fun W hb => by
                  rw [hfs]
                  exact ⟨own_below HO.out.1 hb, HO.out.2.trans (hb.mono HO.out.2.size)⟩
                clear hcs hbl hfs hk hql
                generalize U[j] = x at *
                obtain ⟨xi, xs', xc, xl⟩ := x
                simp only at *
                generalize (⟨xs'.toArray⟩ : ByteArray) = s at *
                have hdz : decide (xl < xc) = false := decide_eq_false hov
                go_wp2_with fail
                go_region_law fail
                all_goals
                  go_wp2_with fail
                  go_roundw
                  case rel => exact ⟨j + 1, by omega, by simp, HY.out _ (below_drew1 _)⟩
                  case measure => simp [intOf]; omega
            · have hjz : ¬ (j : Int) < (U.length : Int) := by omega
              have HZ : Hid (wr.ownsRow w.heap.size 70 4 u12 F.length (rcs ucs F) ∧ Below w.heap.size w wr) := by
                have ho := HO.out
                rw [show j = U.length by omega, List.take_length, ← HFq.out] at ho
                exact ⟨own_mono ho.1 HUr.out.2.size, HUr.out.2.trans (ho.2.mono HUr.out.2.size)⟩
              clear HO HFq
              go_wp2_with fail
              go_ret2
              rw [HE2.out.1, HE2.out.2]
              exact ⟨_, rfl, HZ⟩
    · have h64z : ¬ (xs.length : Int) ≤ 64 := by omega
      have hLg := ov_long hok h64
      rw [hLg.1, hLg.2]
      clear hok hp hx hLg
      go_enter Tryz.func7, Tryz.ntmps7
      go_wp2_with (go_at_call 21; refine HN.out.mono ?_; clear HN; rintro e w2 ⟨rfl, HB2⟩
                   have HS0 : Hid (∀ o, Below w.heap.size w (w2.alloc o)) := fun o => (HB.out.trans (HB2.out.mono HB.out.size)).alloc (Nat.le_trans HB.out.size HB2.out.size) o)
      go_ret2
      exact OvP.nil (HS0.out _)
  · have HN : Hid (Calls Tryz.prog 21 #[.agg #[.int .i64 id, .int .i64 ver, .string cur, .int .i64 rat, .int .i64 least, .int .i64 most, .slice ca cn cc, .int .i64 iss, .int .i64 ast, .slice ba bn bc], .int .i64 need] w1 (RnP 0 0 0 1 w1)) := hN.mono fun e w' h => h.2 hok
    have hE := ov_arg (xs := xs) hok
    rw [hE.1, hE.2]
    clear hok hp hx hE hN
    go_enter Tryz.func7, Tryz.ntmps7
    go_wp2_with (go_at_call 21; refine HN.out.mono ?_; clear HN; rintro e w2 ⟨rfl, HB2⟩
                 have HS0 : Hid (∀ o, Below w.heap.size w (w2.alloc o)) := fun o => (HB.out.trans (HB2.out.mono HB.out.size)).alloc (Nat.le_trans HB.out.size HB2.out.size) o)
    go_ret2
    exact OvP.nil (HS0.out _)
end Go.Proofs.YtdfadcbchiogjaaGreat
