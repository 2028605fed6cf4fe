/- layer 16: New of the program -/
import Derived.Test.YtdfadcbchiogjaaGreatNA
import Derived.WalkKit
import Derived.ProofKit
import Derived.Handy
import Derived.WalkLawsBesides
import Derived.WalkSpells
import Derived.BigQuiet
import Derived.BigCall
import Derived.Deep.QuietTactic
import Derived.Deep.Light
import Derived.Deep.OwnRows
import Derived.Laws.AppendOwnNone
import Derived.Laws.Strings3
import Derived.Laws.RangeAny
import Derived.Deep.RegionWith
import Derived.Lib.BitFns
import Derived.Lib.Walk
import Derived.Lib.Strings
import Derived.Lib.OthersKept
import Derived.Deep.CutBlock
import Derived.Deep.DeepCutAuto
import Derived.Deep.LoopGhost
import Derived.Deep.RegionHeld3
import Derived.Lib.SmallJoins
import Derived.Maps.AppendAt
import Derived.Laws.IdiomStrings
import Derived.Lib.AppendZeros
import Derived.Deep.WholeRow
import Derived.Laws.BitsAllLaws
import Derived.Lib.ConvBytes
import Derived.Deep.RegionLaw
import Derived.Maps.OwnSet
import Derived.Maps.OwnOps
import Derived.Maps.RangeWalk
import Derived.Maps.Ext
import Derived.DeepKeys4
import Derived.Laws.StructEq
import Derived.Deep.MidRow
import Derived.Lib.Bytealg
import Derived.Lib.AppendZerosOnto
import Derived.Laws.MakeOwn
import Derived.Deep.Upon
import Derived.Sort.KeysCollected
namespace Go.Proofs.YtdfadcbchiogjaaGreat
open Go.RowKit
set_option linter.unusedVariables false
set_option linter.unusedSimpArgs false
set_option maxRecDepth 20000
structure Bq where
  id : Int
  ver : Int
  cur : ByteArray
  rat : Int
  least : Int
  most : Int
  ca : Option Addr
  cn : Nat
  cc : Nat
  iss : Int
  ast : Int
  ba : Option Addr
  bn : Nat
  bc : Nat
def bqs (x : Bq) : List Value := [.int .i64 x.id, .int .i64 x.ver, .string x.cur, .int .i64 x.rat, .int .i64 x.least, .int .i64 x.most, .slice x.ca x.cn x.cc, .int .i64 x.iss, .int .i64 x.ast, .slice x.ba x.bn x.bc]
abbrev OkN (need iss ast : Int) : Prop := (0 ≤ need ∧ need ≤ 1125899906842624) ∧ (0 ≤ iss ∧ iss ≤ 1000000) ∧ (0 ≤ ast ∧ ast ≤ 1000000)
def newT (need iss ast : Int) : Tb := ⟨need, prt need iss, prt need ast, []⟩
theorem newT_good {need iss ast : Int} (h : OkN need iss ast) : Good (newT need iss ast) 0 := by
  have h1 := prt_le h.1.1 h.2.1
  have h2 := prt_le h.1.1 h.2.2
  refine ⟨h.1, h1, h2, fun n => ⟨Int.le_refl _, h1.1⟩, fun s => ⟨Int.le_refl _, h2.1⟩, fun p hp => ?_, Nat.le_refl _⟩
  cases hp
def NwP (need iss ast : Int) (w : World) (e : Ending) (w' : World) : Prop := ∃ p m1 m2, e = .returned (.tuple #[.pointer (some ⟨p, 0, none⟩), .int .i64 0]) ∧ Hid (Tm w' p m1 m2 (newT need iss ast) ∧ w.heap.size ≤ p ∧ w.heap.size ≤ m1 ∧ w.heap.size ≤ m2 ∧ Below w.heap.size w w')
def NbP (w : World) (e : Ending) (w' : World) : Prop := e = .returned (.tuple #[.pointer none, .int .i64 1]) ∧ Below w.heap.size w w'
theorem xnewbad (x : Bq) (need : Int) (h : ¬ OkN need x.iss x.ast) (w : World) : Calls Tryz.prog 12 #[.agg (bqs x).toArray, .int .i64 need] w (NbP w) := by
  have HB : Hid (∀ y, Below w.heap.size w (w.alloc y)) := fun y => (Below.refl _ w).alloc (Nat.le_refl _) _
  have HG : Hid (∀ n w, Calls Tryz.prog 32 #[.int .i64 n] w (BP (decide (0 ≤ n ∧ n ≤ 1000000)) w)) := fun n w => xgood n w
  obtain ⟨id, ver, cur, rat, least, most, ca, cn, cc, iss, ast, ba, bn, bc⟩ := x
  simp only [bqs, OkN] at *
  by_cases h1 : need < 0
  · clear h
    go_enter Tryz.func12, Tryz.ntmps12
    go_wp2_with fail
    go_ret2
    exact ⟨rfl, HB.out _⟩
  by_cases h2 : need ≤ 1125899906842624
  · by_cases h3 : 0 ≤ iss ∧ iss ≤ 1000000
    · have h4 : ¬ (0 ≤ ast ∧ ast ≤ 1000000) := fun k => h ⟨⟨by omega, h2⟩, h3, k⟩
      have g3 : decide (0 ≤ iss ∧ iss ≤ 1000000) = true := decide_eq_true h3
      have g4 : decide (0 ≤ ast ∧ ast ≤ 1000000) = false := decide_eq_false h4
      have HG1 : Hid (∀ w, Calls Tryz.prog 32 #[.int .i64 iss] w (BP true w)) := fun w => by have := HG.out iss w; rwa [g3] at this
      have HG2 : Hid (∀ w, Calls Tryz.prog 32 #[.int .i64 ast] w (BP false w)) := fun w => by have := HG.out ast w; rwa [g4] at this
      have h2' : ¬ 1125899906842624 < need := by omega
      clear h h2 h3 h4 g3 g4 HG
      go_enter Tryz.func12, Tryz.ntmps12
      go_wp2_with (first | (go_at_call 32; refine (HG1.out _).mono ?_; clear HG1; rintro e w2 ⟨rfl, rfl⟩) | (go_at_call 32; refine (HG2.out _).mono ?_; clear HG2; rintro e w2 ⟨rfl, rfl⟩))
      go_ret2
      exact ⟨rfl, HB.out _⟩
    · have g3 : decide (0 ≤ iss ∧ iss ≤ 1000000) = false := decide_eq_false h3
      have HG1 : Hid (∀ w, Calls Tryz.prog 32 #[.int .i64 iss] w (BP false w)) := fun w => by have := HG.out iss w; rwa [g3] at this
      have h2' : ¬ 1125899906842624 < need := by omega
      clear h h2 h3 g3 HG
      go_enter Tryz.func12, Tryz.ntmps12
      go_wp2_with (go_at_call 32; refine (HG1.out _).mono ?_; clear HG1; rintro e w2 ⟨rfl, rfl⟩)
      go_ret2
      exact ⟨rfl, HB.out _⟩
  · have h2' : 1125899906842624 < need := by omega
    clear h h2
    go_enter Tryz.func12, Tryz.ntmps12
    go_wp2_with fail
    go_ret2
    exact ⟨rfl, HB.out _⟩
theorem hid_in {p : Prop} (h : p) : Hid p := h
theorem consR3 {P : Program} {l : List Oper} {Q : Exit → Act → World → Prop} {md : Region.Mode} {S : World → Prop} {fuel : Nat} {listed : Array Bool} {a : Act} {w : World} {i j k : Nat} {o o2 o3 : Oper} (hi : l[i]? = some o) (hj : l[j]? = some o2) (hk : l[k]? = some o3) (hr : Region.ready md l.toArray listed = [i, j, k])
    (h : ∀ K' : Act → World → Prop, Shut (∀ a w, S w → (S w → wpAnyH P md l.toArray Q S fuel (listed.setIfInBounds i true) a w) → K' a w) → if Region.wanted o (yielded l.toArray a.tmps) = true then Oper.wp P o a w K' Q else K' (a.put o.dst undef) w)
    (h2 : ∀ K' : Act → World → Prop, Shut (∀ a w, S w → (S w → wpAnyH P md l.toArray Q S fuel (listed.setIfInBounds j true) a w) → K' a w) → if Region.wanted o2 (yielded l.toArray a.tmps) = true then Oper.wp P o2 a w K' Q else K' (a.put o2.dst undef) w)
    (h3 : ∀ K' : Act → World → Prop, Shut (∀ a w, S w → (S w → wpAnyH P md l.toArray Q S fuel (listed.setIfInBounds k true) a w) → K' a w) → if Region.wanted o3 (yielded l.toArray a.tmps) = true then Oper.wp P o3 a w K' Q else K' (a.put o3.dst undef) w) :
    wpAnyH P md l.toArray Q S (fuel + 1) listed a w :=
  wpAnyH_ready hr (by simp) (AllReadyH.cons (by rw [List.getElem?_toArray]; exact hi) h (AllReadyH.cons (by rw [List.getElem?_toArray]; exact hj) h2 (AllReadyH.cons (by rw [List.getElem?_toArray]; exact hk) h3 AllReadyH.nil)))
/-- a table under way: maps made -/
structure Un (w W : World) (l : List Nat) : Prop where
  b : Below w.heap.size w W
  m : ∀ m ∈ l, Ti W m (fun _ => 0) ∧ Ts W m (fun _ => 0) ∧ w.heap.size ≤ m
  nd : l.Pairwise (· < ·)
theorem Un.below {w W W' : World} {l : List Nat} (h : Un w W l) (hb : Below W.heap.size W W') : Un w W' l := ⟨h.b.trans (hb.mono h.b.size), fun m e => ⟨(h.m m e).1.same (hb.block _ (h.m m e).1.lt), (h.m m e).2.1.same (hb.block _ (h.m m e).1.lt), (h.m m e).2.2⟩, h.nd⟩
theorem Un.make {w W : World} {l : List Nat} (h : Un w W l) : Un w (W.alloc (.map #[] 0)) (l ++ [W.heap.size]) := by
  have h1 := h.below ((Below.refl _ W).alloc (Nat.le_refl _) (.map #[] 0))
  refine ⟨h1.b, fun m e => ?_, List.pairwise_append.2 ⟨h.nd, by simp, fun a ha b hb => ?_⟩⟩
  · rcases List.mem_append.1 e with e | e
    · exact h1.m m e
    · simp at e
      subst e
      exact ⟨Fm.made W, Fm.made W, h.b.size⟩
  · simp at hb
    subst hb
    exact (h.m a ha).1.lt
set_option maxHeartbeats 4000000 in
theorem xnew (x : Bq) (need : Int) (h : OkN need x.iss x.ast) (w : World) : Calls Tryz.prog 12 #[.agg (bqs x).toArray, .int .i64 need] w (NwP need x.iss x.ast w) := by
  obtain ⟨w1, hw1⟩ : ∃ w1, w.alloc (.cells (bqs x).toArray 25) = w1 := ⟨_, rfl⟩
  have hX : Bx w1 w.heap.size (bqs x).toArray 25 := by rw [← hw1]; exact Bx.new w _ _
  have HB : Hid (Below w.heap.size w w1) := by rw [← hw1]; exact (Below.refl _ w).alloc (Nat.le_refl _) _
  have HG1 : Hid (∀ w, Calls Tryz.prog 32 #[.int .i64 x.iss] w (BP true w)) := fun w => by have := xgood x.iss w; rwa [decide_eq_true h.2.1] at this
  have HG2 : Hid (∀ w, Calls Tryz.prog 32 #[.int .i64 x.ast] w (BP true w)) := fun w => by have := xgood x.ast w; rwa [decide_eq_true h.2.2] at this
  have HX : Hid (∀ W l, Un w1 W l → W.cell? ⟨w.heap.size, 7, none⟩ = some (.int .i64 x.iss) ∧ W.cell? ⟨w.heap.size, 8, none⟩ = some (.int .i64 x.ast) ∧ w.heap.size < W.heap.size) := fun W l hb => by
    have k := hX.below hb.b hX.lt
    exact ⟨k.cell 7, k.cell 8, k.lt⟩
  have HP1 : Hid (∀ W l, Un w1 W l → Calls Tryz.prog 33 #[.int .i64 need, .int .i64 x.iss] W (fun e w' => e = .returned (.int .i64 (prt need x.iss)) ∧ Hid (Un w1 w' l))) := fun W l hb => (xpart need x.iss h.1 h.2.1 W).mono fun e w' hh => ⟨hh.1, hb.below hh.2⟩
  have HP2 : Hid (∀ W l, Un w1 W l → Calls Tryz.prog 33 #[.int .i64 need, .int .i64 x.ast] W (fun e w' => e = .returned (.int .i64 (prt need x.ast)) ∧ Hid (Un w1 w' l))) := fun W l hb => (xpart need x.ast h.1 h.2.2 W).mono fun e w' hh => ⟨hh.1, hb.below hh.2⟩
  have xlt : w.heap.size < w1.heap.size := hX.lt
  have x7 : w1.cell? ⟨w.heap.size, 7, none⟩ = some (.int .i64 x.iss) := hX.cell 7
  have x8 : w1.cell? ⟨w.heap.size, 8, none⟩ = some (.int .i64 x.ast) := hX.cell 8
  have HF : Hid (∀ W a b m1 m2, Un w1 W [a, b] → (m1 = a ∧ m2 = b ∨ m1 = b ∧ m2 = a) → NwP need x.iss x.ast w (.returned (.tuple #[.pointer (some ⟨W.heap.size, 0, none⟩), .int .i64 0])) (W.alloc (.cells #[.int .i64 need, .int .i64 (prt need x.iss), .int .i64 (prt need x.ast), .map (some m1), .map (some m2)] 87))) := fun W a b m1 m2 hu hm => by
    have hbw : Below w.heap.size w W := HB.out.trans (hu.b.mono HB.out.size)
    have hb1 := (Below.refl W.heap.size W).alloc (Nat.le_refl _) (.cells #[.int .i64 need, .int .i64 (prt need x.iss), .int .i64 (prt need x.ast), .map (some m1), .map (some m2)] 87)
    have h2 := hu.below hb1
    have hs := HB.out.size
    have ha := h2.m a (by simp)
    have hb := h2.m b (by simp)
    have hne : a < b := by have := hu.nd; simpa using this
    rcases hm with ⟨rfl, rfl⟩ | ⟨rfl, rfl⟩
    · exact ⟨_, m1, m2, rfl, ⟨Bx.new W _ _, ha.1, hb.2.1, by omega⟩, hbw.size, by omega, by omega, hbw.alloc hbw.size _⟩
    · exact ⟨_, m1, m2, rfl, ⟨Bx.new W _ _, hb.1, ha.2.1, by omega⟩, hbw.size, by omega, by omega, hbw.alloc hbw.size _⟩
  have h1 : ¬ need < 0 := by have := h.1; omega
  have h2' : ¬ 1125899906842624 < need := by have := h.1; omega
  obtain ⟨id, ver, cur, rat, least, most, ca, cn, cc, iss, ast, ba, bn, bc⟩ := x
  simp only [bqs] at *
  generalize prt need iss = P1 at *
  generalize prt need ast = P2 at *
  have HX7 : Hid (∀ W, Below w1.heap.size w1 W → W.cell? ⟨w.heap.size, 7, none⟩ = some (.int .i64 iss) ∧ W.cell? ⟨w.heap.size, 8, none⟩ = some (.int .i64 ast)) := fun W hb => by
    have k := hX.below hb hX.lt
    exact ⟨k.cell 7, k.cell 8⟩
  have hmm := @run_makeMap Tryz.prog
  clear h hX HB HX
  go_enter Tryz.func12, Tryz.ntmps12
  go_wp2_with (first | (go_at_call 32; refine (HG1.out _).mono ?_; clear HG1; rintro e w2 ⟨rfl, rfl⟩) | (go_at_call 32; refine (HG2.out _).mono ?_; clear HG2; rintro e w2 ⟨rfl, rfl⟩))
  refine wp_region_held (S := fun W => Below w1.heap.size w1 W) (by kernel_rfl) ?_
  change wpAnyH _ _ _ _ _ 15 #[false, false, false, false, false, false, false, false, false, false, false, false, false, false, false] _ w1.drew
  have hS0 : Below w1.heap.size w1 w1.drew := below_drew1 w1
  have U0 : Hid (Un w1 w1.drew []) := ⟨below_drew1 w1, fun m e => (by cases e), List.Pairwise.nil⟩
  generalize w1.drew = z0 at *
  refine takeR (fuel := 14) (i := 0) (v := .int .i64 need) rfl (by kernel_rfl) (by kernel_rfl) (by kernel_rfl) (fun _ _ _ h => h) (Or.inl ⟨rfl, fun W hW => by go_simp⟩) hS0 ?_
  simp only [Act.put, List.setIfInBounds_toArray, List.set_cons_zero, List.set_cons_succ]
  refine takeR (fuel := 13) (i := 1) (v := .int .i64 need) rfl (by kernel_rfl) (by kernel_rfl) (by kernel_rfl) (fun _ _ _ h => h) (Or.inl ⟨rfl, fun W hW => by go_simp⟩) hS0 ?_
  simp only [Act.put, List.setIfInBounds_toArray, List.set_cons_zero, List.set_cons_succ]
  refine takeR (fuel := 12) (i := 2) (v := .pointer (some ⟨w.heap.size, 7, none⟩)) rfl (by kernel_rfl) (by kernel_rfl) (by kernel_rfl) (fun _ _ _ h => h) (Or.inl ⟨rfl, fun W hW => by go_simp⟩) hS0 ?_
  simp only [Act.put, List.setIfInBounds_toArray, List.set_cons_zero, List.set_cons_succ]
  refine takeR (fuel := 11) (i := 3) (v := .int .i64 iss) rfl (by kernel_rfl) (by kernel_rfl) (by kernel_rfl) (fun _ _ _ h => h) (Or.inl ⟨rfl, fun W hW => by have c := (HX7.out W hW).1; go_simp⟩) hS0 ?_
  simp only [Act.put, List.setIfInBounds_toArray, List.set_cons_zero, List.set_cons_succ]
  refine takeR (fuel := 10) (i := 5) (v := .int .i64 need) rfl (by kernel_rfl) (by kernel_rfl) (by kernel_rfl) (fun _ _ _ h => h) (Or.inl ⟨rfl, fun W hW => by go_simp⟩) hS0 ?_
  simp only [Act.put, List.setIfInBounds_toArray, List.set_cons_zero, List.set_cons_succ]
  refine takeR (fuel := 9) (i := 6) (v := .pointer (some ⟨w.heap.size, 8, none⟩)) rfl (by kernel_rfl) (by kernel_rfl) (by kernel_rfl) (fun _ _ _ h => h) (Or.inl ⟨rfl, fun W hW => by go_simp⟩) hS0 ?_
  simp only [Act.put, List.setIfInBounds_toArray, List.set_cons_zero, List.set_cons_succ]
  refine takeR (fuel := 8) (i := 7) (v := .int .i64 ast) rfl (by kernel_rfl) (by kernel_rfl) (by kernel_rfl) (fun _ _ _ h => h) (Or.inl ⟨rfl, fun W hW => by have c := (HX7.out W hW).2; go_simp⟩) hS0 ?_
  simp only [Act.put, List.setIfInBounds_toArray, List.set_cons_zero, List.set_cons_succ]
  refine consR3 (fuel := 7) (i := 4) (j := 9) (k := 10) rfl rfl rfl (by kernel_rfl) (fun K hK => ?_) (fun K hK => ?_) (fun K hK => ?_)
  · rw [if_pos (by rfl)]
    go_simp
    refine (HP1.out _ _ U0.out).mono ?_
    rintro e z1 ⟨rfl, U1⟩
    refine hK.out _ _ U1.out.b (fun hS1 => ?_)
    clear hK
    try simp only [Act.put, List.setIfInBounds_toArray, List.set_cons_zero, List.set_cons_succ]
    refine consR3 (fuel := 6) (i := 8) (j := 9) (k := 10) rfl rfl rfl (by kernel_rfl) (fun K hK => ?_) (fun K hK => ?_) (fun K hK => ?_)
    · rw [if_pos (by rfl)]
      go_simp
      refine (HP2.out _ _ U1.out).mono ?_
      rintro e z2 ⟨rfl, U2⟩
      refine hK.out _ _ U2.out.b (fun hS2 => ?_)
      clear hK
      try simp only [Act.put, List.setIfInBounds_toArray, List.set_cons_zero, List.set_cons_succ]
      refine consR2 (fuel := 5) (i := 9) (j := 10) rfl rfl (by kernel_rfl) (fun K hK => ?_) (fun K hK => ?_)
      · rw [if_pos (by rfl)]
        go_simp
        refine hK.out _ _ U2.out.make.b (fun hS3 => ?_)
        clear hK
        have V3 := U2.out.make
        obtain ⟨n3, hn3⟩ : ∃ n, n = z2.heap.size := ⟨_, rfl⟩
        obtain ⟨z3, hz3⟩ : ∃ z, z = z2.alloc (.map #[] 0) := ⟨_, rfl⟩
        try simp only [Act.put, List.setIfInBounds_toArray, List.set_cons_zero, List.set_cons_succ]
        rw [← hn3, ← hz3] at V3
        rw [← hz3] at hS3
        rw [← hn3, ← hz3]
        replace V3 := hid_in V3
        clear hn3 hz3
        refine consR (fuel := 4) (i := 10) rfl (by kernel_rfl) (fun K hK => ?_)
        rw [if_pos (by rfl)]
        go_simp
        refine hK.out _ _ V3.out.make.b (fun hS4 => ?_)
        clear hK
        have V4 := V3.out.make
        obtain ⟨n4, hn4⟩ : ∃ n, n = z3.heap.size := ⟨_, rfl⟩
        obtain ⟨z4, hz4⟩ : ∃ z, z = z3.alloc (.map #[] 0) := ⟨_, rfl⟩
        try simp only [Act.put, List.setIfInBounds_toArray, List.set_cons_zero, List.set_cons_succ]
        rw [← hn4, ← hz4] at V4
        rw [← hz4] at hS4
        rw [← hn4, ← hz4]
        replace V4 := hid_in V4
        clear hn4 hz4
        refine takeR (fuel := 3) (i := 11) (v := .agg #[.int .i64 need, .int .i64 P1, .int .i64 P2, .map (some n3), .map (some n4)]) rfl (by kernel_rfl) (by kernel_rfl) (by kernel_rfl) (fun _ _ _ h => h) (Or.inl ⟨rfl, fun W hW => by go_simp⟩) hS4 ?_
        simp only [Act.put, List.setIfInBounds_toArray, List.set_cons_zero, List.set_cons_succ]
        refine consR (fuel := 2) (i := 12) rfl (by kernel_rfl) (fun K hK => ?_)
        rw [if_pos (by rfl)]
        go_simp
        refine hK.out _ _ (V4.out.b.alloc V4.out.b.size _) (fun hS5 => ?_)
        clear hK
        try simp only [Act.put, List.setIfInBounds_toArray, List.set_cons_zero, List.set_cons_succ]
        refine takeR (fuel := 1) (i := 13) (v := .pointer (some ⟨z4.heap.size, 0, none⟩)) rfl (by kernel_rfl) (by kernel_rfl) (by kernel_rfl) (fun _ _ _ h => h) (Or.inl ⟨rfl, fun W hW => by go_simp⟩) hS5 ?_
        simp only [Act.put, List.setIfInBounds_toArray, List.set_cons_zero, List.set_cons_succ]
        refine takeR (fuel := 0) (i := 14) (v := .int .i64 0) rfl (by kernel_rfl) (by kernel_rfl) (by kernel_rfl) (fun _ _ _ h => h) (Or.inl ⟨rfl, fun W hW => by go_simp⟩) hS5 ?_
        simp only [Act.put, List.setIfInBounds_toArray, List.set_cons_zero, List.set_cons_succ]
        refine wpAnyH_done (by kernel_rfl) ?_ _
        go_wp2_with fail
        go_ret2
        exact HF.out _ _ _ _ _ V4.out (.inl ⟨rfl, rfl⟩)
      · rw [if_pos (by rfl)]
        go_simp
        refine hK.out _ _ U2.out.make.b (fun hS6 => ?_)
        clear hK
        have V6 := U2.out.make
        obtain ⟨n6, hn6⟩ : ∃ n, n = z2.heap.size := ⟨_, rfl⟩
        obtain ⟨z6, hz6⟩ : ∃ z, z = z2.alloc (.map #[] 0) := ⟨_, rfl⟩
        try simp only [Act.put, List.setIfInBounds_toArray, List.set_cons_zero, List.set_cons_succ]
        rw [← hn6, ← hz6] at V6
        rw [← hz6] at hS6
        rw [← hn6, ← hz6]
        replace V6 := hid_in V6
        clear hn6 hz6
        refine consR (fuel := 4) (i := 9) rfl (by kernel_rfl) (fun K hK => ?_)
        rw [if_pos (by rfl)]
        go_simp
        refine hK.out _ _ V6.out.make.b (fun hS7 => ?_)
        clear hK
        have V7 := V6.out.make
        obtain ⟨n7, hn7⟩ : ∃ n, n = z6.heap.size := ⟨_, rfl⟩
        obtain ⟨z7, hz7⟩ : ∃ z, z = z6.alloc (.map #[] 0) := ⟨_, rfl⟩
        try simp only [Act.put, List.setIfInBounds_toArray, List.set_cons_zero, List.set_cons_succ]
        rw [← hn7, ← hz7] at V7
        rw [← hz7] at hS7
        rw [← hn7, ← hz7]
        replace V7 := hid_in V7
        clear hn7 hz7
        refine takeR (fuel := 3) (i := 11) (v := .agg #[.int .i64 need, .int .i64 P1, .int .i64 P2, .map (some n7), .map (some n6)]) rfl (by kernel_rfl) (by kernel_rfl) (by kernel_rfl) (fun _ _ _ h => h) (Or.inl ⟨rfl, fun W hW => by go_simp⟩) hS7 ?_
        simp only [Act.put, List.setIfInBounds_toArray, List.set_cons_zero, List.set_cons_succ]
        refine consR (fuel := 2) (i := 12) rfl (by kernel_rfl) (fun K hK => ?_)
        rw [if_pos (by rfl)]
        go_simp
        refine hK.out _ _ (V7.out.b.alloc V7.out.b.size _) (fun hS8 => ?_)
        clear hK
        try simp only [Act.put, List.setIfInBounds_toArray, List.set_cons_zero, List.set_cons_succ]
        refine takeR (fuel := 1) (i := 13) (v := .pointer (some ⟨z7.heap.size, 0, none⟩)) rfl (by kernel_rfl) (by kernel_rfl) (by kernel_rfl) (fun _ _ _ h => h) (Or.inl ⟨rfl, fun W hW => by go_simp⟩) hS8 ?_
        simp only [Act.put, List.setIfInBounds_toArray, List.set_cons_zero, List.set_cons_succ]
        refine takeR (fuel := 0) (i := 14) (v := .int .i64 0) rfl (by kernel_rfl) (by kernel_rfl) (by kernel_rfl) (fun _ _ _ h => h) (Or.inl ⟨rfl, fun W hW => by go_simp⟩) hS8 ?_
        simp only [Act.put, List.setIfInBounds_toArray, List.set_cons_zero, List.set_cons_succ]
        refine wpAnyH_done (by kernel_rfl) ?_ _
        go_wp2_with fail
        go_ret2
        exact HF.out _ _ _ _ _ V7.out (.inr ⟨rfl, rfl⟩)
    · rw [if_pos (by rfl)]
      go_simp
      refine hK.out _ _ U1.out.make.b (fun hS9 => ?_)
      clear hK
      have V9 := U1.out.make
      obtain ⟨n9, hn9⟩ : ∃ n, n = z1.heap.size := ⟨_, rfl⟩
      obtain ⟨z9, hz9⟩ : ∃ z, z = z1.alloc (.map #[] 0) := ⟨_, rfl⟩
      try simp only [Act.put, List.setIfInBounds_toArray, List.set_cons_zero, List.set_cons_succ]
      rw [← hn9, ← hz9] at V9
      rw [← hz9] at hS9
      rw [← hn9, ← hz9]
      replace V9 := hid_in V9
      clear hn9 hz9
      refine consR2 (fuel := 5) (i := 8) (j := 10) rfl rfl (by kernel_rfl) (fun K hK => ?_) (fun K hK => ?_)
      · rw [if_pos (by rfl)]
        go_simp
        refine (HP2.out _ _ V9.out).mono ?_
        rintro e z10 ⟨rfl, U10⟩
        refine hK.out _ _ U10.out.b (fun hS10 => ?_)
        clear hK
        try simp only [Act.put, List.setIfInBounds_toArray, List.set_cons_zero, List.set_cons_succ]
        refine consR (fuel := 4) (i := 10) rfl (by kernel_rfl) (fun K hK => ?_)
        rw [if_pos (by rfl)]
        go_simp
        refine hK.out _ _ U10.out.make.b (fun hS11 => ?_)
        clear hK
        have V11 := U10.out.make
        obtain ⟨n11, hn11⟩ : ∃ n, n = z10.heap.size := ⟨_, rfl⟩
        obtain ⟨z11, hz11⟩ : ∃ z, z = z10.alloc (.map #[] 0) := ⟨_, rfl⟩
        try simp only [Act.put, List.setIfInBounds_toArray, List.set_cons_zero, List.set_cons_succ]
        rw [← hn11, ← hz11] at V11
        rw [← hz11] at hS11
        rw [← hn11, ← hz11]
        replace V11 := hid_in V11
        clear hn11 hz11
        refine takeR (fuel := 3) (i := 11) (v := .agg #[.int .i64 need, .int .i64 P1, .int .i64 P2, .map (some n9), .map (some n11)]) rfl (by kernel_rfl) (by kernel_rfl) (by kernel_rfl) (fun _ _ _ h => h) (Or.inl ⟨rfl, fun W hW => by go_simp⟩) hS11 ?_
        simp only [Act.put, List.setIfInBounds_toArray, List.set_cons_zero, List.set_cons_succ]
        refine consR (fuel := 2) (i := 12) rfl (by kernel_rfl) (fun K hK => ?_)
        rw [if_pos (by rfl)]
        go_simp
        refine hK.out _ _ (V11.out.b.alloc V11.out.b.size _) (fun hS12 => ?_)
        clear hK
        try simp only [Act.put, List.setIfInBounds_toArray, List.set_cons_zero, List.set_cons_succ]
        refine takeR (fuel := 1) (i := 13) (v := .pointer (some ⟨z11.heap.size, 0, none⟩)) rfl (by kernel_rfl) (by kernel_rfl) (by kernel_rfl) (fun _ _ _ h => h) (Or.inl ⟨rfl, fun W hW => by go_simp⟩) hS12 ?_
        simp only [Act.put, List.setIfInBounds_toArray, List.set_cons_zero, List.set_cons_succ]
        refine takeR (fuel := 0) (i := 14) (v := .int .i64 0) rfl (by kernel_rfl) (by kernel_rfl) (by kernel_rfl) (fun _ _ _ h => h) (Or.inl ⟨rfl, fun W hW => by go_simp⟩) hS12 ?_
        simp only [Act.put, List.setIfInBounds_toArray, List.set_cons_zero, List.set_cons_succ]
        refine wpAnyH_done (by kernel_rfl) ?_ _
        go_wp2_with fail
        go_ret2
        exact HF.out _ _ _ _ _ V11.out (.inl ⟨rfl, rfl⟩)
      · rw [if_pos (by rfl)]
        go_simp
        refine hK.out _ _ V9.out.make.b (fun hS13 => ?_)
        clear hK
        have V13 := V9.out.make
        obtain ⟨n13, hn13⟩ : ∃ n, n = z9.heap.size := ⟨_, rfl⟩
        obtain ⟨z13, hz13⟩ : ∃ z, z = z9.alloc (.map #[] 0) := ⟨_, rfl⟩
        try simp only [Act.put, List.setIfInBounds_toArray, List.set_cons_zero, List.set_cons_succ]
        rw [← hn13, ← hz13] at V13
        rw [← hz13] at hS13
        rw [← hn13, ← hz13]
        replace V13 := hid_in V13
        clear hn13 hz13
        refine consR (fuel := 4) (i := 8) rfl (by kernel_rfl) (fun K hK => ?_)
        rw [if_pos (by rfl)]
        go_simp
        refine (HP2.out _ _ V13.out).mono ?_
        rintro e z14 ⟨rfl, U14⟩
        refine hK.out _ _ U14.out.b (fun hS14 => ?_)
        clear hK
        try simp only [Act.put, List.setIfInBounds_toArray, List.set_cons_zero, List.set_cons_succ]
        refine takeR (fuel := 3) (i := 11) (v := .agg #[.int .i64 need, .int .i64 P1, .int .i64 P2, .map (some n9), .map (some n13)]) rfl (by kernel_rfl) (by kernel_rfl) (by kernel_rfl) (fun _ _ _ h => h) (Or.inl ⟨rfl, fun W hW => by go_simp⟩) hS14 ?_
        simp only [Act.put, List.setIfInBounds_toArray, List.set_cons_zero, List.set_cons_succ]
        refine consR (fuel := 2) (i := 12) rfl (by kernel_rfl) (fun K hK => ?_)
        rw [if_pos (by rfl)]
        go_simp
        refine hK.out _ _ (U14.out.b.alloc U14.out.b.size _) (fun hS15 => ?_)
        clear hK
        try simp only [Act.put, List.setIfInBounds_toArray, List.set_cons_zero, List.set_cons_succ]
        refine takeR (fuel := 1) (i := 13) (v := .pointer (some ⟨z14.heap.size, 0, none⟩)) rfl (by kernel_rfl) (by kernel_rfl) (by kernel_rfl) (fun _ _ _ h => h) (Or.inl ⟨rfl, fun W hW => by go_simp⟩) hS15 ?_
        simp only [Act.put, List.setIfInBounds_toArray, List.set_cons_zero, List.set_cons_succ]
        refine takeR (fuel := 0) (i := 14) (v := .int .i64 0) rfl (by kernel_rfl) (by kernel_rfl) (by kernel_rfl) (fun _ _ _ h => h) (Or.inl ⟨rfl, fun W hW => by go_simp⟩) hS15 ?_
        simp only [Act.put, List.setIfInBounds_toArray, List.set_cons_zero, List.set_cons_succ]
        refine wpAnyH_done (by kernel_rfl) ?_ _
        go_wp2_with fail
        go_ret2
        exact HF.out _ _ _ _ _ U14.out (.inl ⟨rfl, rfl⟩)
    · rw [if_pos (by rfl)]
      go_simp
      refine hK.out _ _ U1.out.make.b (fun hS16 => ?_)
      clear hK
      have V16 := U1.out.make
      obtain ⟨n16, hn16⟩ : ∃ n, n = z1.heap.size := ⟨_, rfl⟩
      obtain ⟨z16, hz16⟩ : ∃ z, z = z1.alloc (.map #[] 0) := ⟨_, rfl⟩
      try simp only [Act.put, List.setIfInBounds_toArray, List.set_cons_zero, List.set_cons_succ]
      rw [← hn16, ← hz16] at V16
      rw [← hz16] at hS16
      rw [← hn16, ← hz16]
      replace V16 := hid_in V16
      clear hn16 hz16
      refine consR2 (fuel := 5) (i := 8) (j := 9) rfl rfl (by kernel_rfl) (fun K hK => ?_) (fun K hK => ?_)
      · rw [if_pos (by rfl)]
        go_simp
        refine (HP2.out _ _ V16.out).mono ?_
        rintro e z17 ⟨rfl, U17⟩
        refine hK.out _ _ U17.out.b (fun hS17 => ?_)
        clear hK
        try simp only [Act.put, List.setIfInBounds_toArray, List.set_cons_zero, List.set_cons_succ]
        refine consR (fuel := 4) (i := 9) rfl (by kernel_rfl) (fun K hK => ?_)
        rw [if_pos (by rfl)]
        go_simp
        refine hK.out _ _ U17.out.make.b (fun hS18 => ?_)
        clear hK
        have V18 := U17.out.make
        obtain ⟨n18, hn18⟩ : ∃ n, n = z17.heap.size := ⟨_, rfl⟩
        obtain ⟨z18, hz18⟩ : ∃ z, z = z17.alloc (.map #[] 0) := ⟨_, rfl⟩
        try simp only [Act.put, List.setIfInBounds_toArray, List.set_cons_zero, List.set_cons_succ]
        rw [← hn18, ← hz18] at V18
        rw [← hz18] at hS18
        rw [← hn18, ← hz18]
        replace V18 := hid_in V18
        clear hn18 hz18
        refine takeR (fuel := 3) (i := 11) (v := .agg #[.int .i64 need, .int .i64 P1, .int .i64 P2, .map (some n18), .map (some n16)]) rfl (by kernel_rfl) (by kernel_rfl) (by kernel_rfl) (fun _ _ _ h => h) (Or.inl ⟨rfl, fun W hW => by go_simp⟩) hS18 ?_
        simp only [Act.put, List.setIfInBounds_toArray, List.set_cons_zero, List.set_cons_succ]
        refine consR (fuel := 2) (i := 12) rfl (by kernel_rfl) (fun K hK => ?_)
        rw [if_pos (by rfl)]
        go_simp
        refine hK.out _ _ (V18.out.b.alloc V18.out.b.size _) (fun hS19 => ?_)
        clear hK
        try simp only [Act.put, List.setIfInBounds_toArray, List.set_cons_zero, List.set_cons_succ]
        refine takeR (fuel := 1) (i := 13) (v := .pointer (some ⟨z18.heap.size, 0, none⟩)) rfl (by kernel_rfl) (by kernel_rfl) (by kernel_rfl) (fun _ _ _ h => h) (Or.inl ⟨rfl, fun W hW => by go_simp⟩) hS19 ?_
        simp only [Act.put, List.setIfInBounds_toArray, List.set_cons_zero, List.set_cons_succ]
        refine takeR (fuel := 0) (i := 14) (v := .int .i64 0) rfl (by kernel_rfl) (by kernel_rfl) (by kernel_rfl) (fun _ _ _ h => h) (Or.inl ⟨rfl, fun W hW => by go_simp⟩) hS19 ?_
        simp only [Act.put, List.setIfInBounds_toArray, List.set_cons_zero, List.set_cons_succ]
        refine wpAnyH_done (by kernel_rfl) ?_ _
        go_wp2_with fail
        go_ret2
        exact HF.out _ _ _ _ _ V18.out (.inr ⟨rfl, rfl⟩)
      · rw [if_pos (by rfl)]
        go_simp
        refine hK.out _ _ V16.out.make.b (fun hS20 => ?_)
        clear hK
        have V20 := V16.out.make
        obtain ⟨n20, hn20⟩ : ∃ n, n = z16.heap.size := ⟨_, rfl⟩
        obtain ⟨z20, hz20⟩ : ∃ z, z = z16.alloc (.map #[] 0) := ⟨_, rfl⟩
        try simp only [Act.put, List.setIfInBounds_toArray, List.set_cons_zero, List.set_cons_succ]
        rw [← hn20, ← hz20] at V20
        rw [← hz20] at hS20
        rw [← hn20, ← hz20]
        replace V20 := hid_in V20
        clear hn20 hz20
        refine consR (fuel := 4) (i := 8) rfl (by kernel_rfl) (fun K hK => ?_)
        rw [if_pos (by rfl)]
        go_simp
        refine (HP2.out _ _ V20.out).mono ?_
        rintro e z21 ⟨rfl, U21⟩
        refine hK.out _ _ U21.out.b (fun hS21 => ?_)
        clear hK
        try simp only [Act.put, List.setIfInBounds_toArray, List.set_cons_zero, List.set_cons_succ]
        refine takeR (fuel := 3) (i := 11) (v := .agg #[.int .i64 need, .int .i64 P1, .int .i64 P2, .map (some n20), .map (some n16)]) rfl (by kernel_rfl) (by kernel_rfl) (by kernel_rfl) (fun _ _ _ h => h) (Or.inl ⟨rfl, fun W hW => by go_simp⟩) hS21 ?_
        simp only [Act.put, List.setIfInBounds_toArray, List.set_cons_zero, List.set_cons_succ]
        refine consR (fuel := 2) (i := 12) rfl (by kernel_rfl) (fun K hK => ?_)
        rw [if_pos (by rfl)]
        go_simp
        refine hK.out _ _ (U21.out.b.alloc U21.out.b.size _) (fun hS22 => ?_)
        clear hK
        try simp only [Act.put, List.setIfInBounds_toArray, List.set_cons_zero, List.set_cons_succ]
        refine takeR (fuel := 1) (i := 13) (v := .pointer (some ⟨z21.heap.size, 0, none⟩)) rfl (by kernel_rfl) (by kernel_rfl) (by kernel_rfl) (fun _ _ _ h => h) (Or.inl ⟨rfl, fun W hW => by go_simp⟩) hS22 ?_
        simp only [Act.put, List.setIfInBounds_toArray, List.set_cons_zero, List.set_cons_succ]
        refine takeR (fuel := 0) (i := 14) (v := .int .i64 0) rfl (by kernel_rfl) (by kernel_rfl) (by kernel_rfl) (fun _ _ _ h => h) (Or.inl ⟨rfl, fun W hW => by go_simp⟩) hS22 ?_
        simp only [Act.put, List.setIfInBounds_toArray, List.set_cons_zero, List.set_cons_succ]
        refine wpAnyH_done (by kernel_rfl) ?_ _
        go_wp2_with fail
        go_ret2
        exact HF.out _ _ _ _ _ U21.out (.inr ⟨rfl, rfl⟩)
  · rw [if_pos (by rfl)]
    go_simp
    refine hK.out _ _ U0.out.make.b (fun hS23 => ?_)
    clear hK
    have V23 := U0.out.make
    obtain ⟨n23, hn23⟩ : ∃ n, n = z0.heap.size := ⟨_, rfl⟩
    obtain ⟨z23, hz23⟩ : ∃ z, z = z0.alloc (.map #[] 0) := ⟨_, rfl⟩
    try simp only [Act.put, List.setIfInBounds_toArray, List.set_cons_zero, List.set_cons_succ]
    rw [← hn23, ← hz23] at V23
    rw [← hz23] at hS23
    rw [← hn23, ← hz23]
    replace V23 := hid_in V23
    clear hn23 hz23
    refine consR2 (fuel := 6) (i := 4) (j := 10) rfl rfl (by kernel_rfl) (fun K hK => ?_) (fun K hK => ?_)
    · rw [if_pos (by rfl)]
      go_simp
      refine (HP1.out _ _ V23.out).mono ?_
      rintro e z24 ⟨rfl, U24⟩
      refine hK.out _ _ U24.out.b (fun hS24 => ?_)
      clear hK
      try simp only [Act.put, List.setIfInBounds_toArray, List.set_cons_zero, List.set_cons_succ]
      refine consR2 (fuel := 5) (i := 8) (j := 10) rfl rfl (by kernel_rfl) (fun K hK => ?_) (fun K hK => ?_)
      · rw [if_pos (by rfl)]
        go_simp
        refine (HP2.out _ _ U24.out).mono ?_
        rintro e z25 ⟨rfl, U25⟩
        refine hK.out _ _ U25.out.b (fun hS25 => ?_)
        clear hK
        try simp only [Act.put, List.setIfInBounds_toArray, List.set_cons_zero, List.set_cons_succ]
        refine consR (fuel := 4) (i := 10) rfl (by kernel_rfl) (fun K hK => ?_)
        rw [if_pos (by rfl)]
        go_simp
        refine hK.out _ _ U25.out.make.b (fun hS26 => ?_)
        clear hK
        have V26 := U25.out.make
        obtain ⟨n26, hn26⟩ : ∃ n, n = z25.heap.size := ⟨_, rfl⟩
        obtain ⟨z26, hz26⟩ : ∃ z, z = z25.alloc (.map #[] 0) := ⟨_, rfl⟩
        try simp only [Act.put, List.setIfInBounds_toArray, List.set_cons_zero, List.set_cons_succ]
        rw [← hn26, ← hz26] at V26
        rw [← hz26] at hS26
        rw [← hn26, ← hz26]
        replace V26 := hid_in V26
        clear hn26 hz26
        refine takeR (fuel := 3) (i := 11) (v := .agg #[.int .i64 need, .int .i64 P1, .int .i64 P2, .map (some n23), .map (some n26)]) rfl (by kernel_rfl) (by kernel_rfl) (by kernel_rfl) (fun _ _ _ h => h) (Or.inl ⟨rfl, fun W hW => by go_simp⟩) hS26 ?_
        simp only [Act.put, List.setIfInBounds_toArray, List.set_cons_zero, List.set_cons_succ]
        refine consR (fuel := 2) (i := 12) rfl (by kernel_rfl) (fun K hK => ?_)
        rw [if_pos (by rfl)]
        go_simp
        refine hK.out _ _ (V26.out.b.alloc V26.out.b.size _) (fun hS27 => ?_)
        clear hK
        try simp only [Act.put, List.setIfInBounds_toArray, List.set_cons_zero, List.set_cons_succ]
        refine takeR (fuel := 1) (i := 13) (v := .pointer (some ⟨z26.heap.size, 0, none⟩)) rfl (by kernel_rfl) (by kernel_rfl) (by kernel_rfl) (fun _ _ _ h => h) (Or.inl ⟨rfl, fun W hW => by go_simp⟩) hS27 ?_
        simp only [Act.put, List.setIfInBounds_toArray, List.set_cons_zero, List.set_cons_succ]
        refine takeR (fuel := 0) (i := 14) (v := .int .i64 0) rfl (by kernel_rfl) (by kernel_rfl) (by kernel_rfl) (fun _ _ _ h => h) (Or.inl ⟨rfl, fun W hW => by go_simp⟩) hS27 ?_
        simp only [Act.put, List.setIfInBounds_toArray, List.set_cons_zero, List.set_cons_succ]
        refine wpAnyH_done (by kernel_rfl) ?_ _
        go_wp2_with fail
        go_ret2
        exact HF.out _ _ _ _ _ V26.out (.inl ⟨rfl, rfl⟩)
      · rw [if_pos (by rfl)]
        go_simp
        refine hK.out _ _ U24.out.make.b (fun hS28 => ?_)
        clear hK
        have V28 := U24.out.make
        obtain ⟨n28, hn28⟩ : ∃ n, n = z24.heap.size := ⟨_, rfl⟩
        obtain ⟨z28, hz28⟩ : ∃ z, z = z24.alloc (.map #[] 0) := ⟨_, rfl⟩
        try simp only [Act.put, List.setIfInBounds_toArray, List.set_cons_zero, List.set_cons_succ]
        rw [← hn28, ← hz28] at V28
        rw [← hz28] at hS28
        rw [← hn28, ← hz28]
        replace V28 := hid_in V28
        clear hn28 hz28
        refine consR (fuel := 4) (i := 8) rfl (by kernel_rfl) (fun K hK => ?_)
        rw [if_pos (by rfl)]
        go_simp
        refine (HP2.out _ _ V28.out).mono ?_
        rintro e z29 ⟨rfl, U29⟩
        refine hK.out _ _ U29.out.b (fun hS29 => ?_)
        clear hK
        try simp only [Act.put, List.setIfInBounds_toArray, List.set_cons_zero, List.set_cons_succ]
        refine takeR (fuel := 3) (i := 11) (v := .agg #[.int .i64 need, .int .i64 P1, .int .i64 P2, .map (some n23), .map (some n28)]) rfl (by kernel_rfl) (by kernel_rfl) (by kernel_rfl) (fun _ _ _ h => h) (Or.inl ⟨rfl, fun W hW => by go_simp⟩) hS29 ?_
        simp only [Act.put, List.setIfInBounds_toArray, List.set_cons_zero, List.set_cons_succ]
        refine consR (fuel := 2) (i := 12) rfl (by kernel_rfl) (fun K hK => ?_)
        rw [if_pos (by rfl)]
        go_simp
        refine hK.out _ _ (U29.out.b.alloc U29.out.b.size _) (fun hS30 => ?_)
        clear hK
        try simp only [Act.put, List.setIfInBounds_toArray, List.set_cons_zero, List.set_cons_succ]
        refine takeR (fuel := 1) (i := 13) (v := .pointer (some ⟨z29.heap.size, 0, none⟩)) rfl (by kernel_rfl) (by kernel_rfl) (by kernel_rfl) (fun _ _ _ h => h) (Or.inl ⟨rfl, fun W hW => by go_simp⟩) hS30 ?_
        simp only [Act.put, List.setIfInBounds_toArray, List.set_cons_zero, List.set_cons_succ]
        refine takeR (fuel := 0) (i := 14) (v := .int .i64 0) rfl (by kernel_rfl) (by kernel_rfl) (by kernel_rfl) (fun _ _ _ h => h) (Or.inl ⟨rfl, fun W hW => by go_simp⟩) hS30 ?_
        simp only [Act.put, List.setIfInBounds_toArray, List.set_cons_zero, List.set_cons_succ]
        refine wpAnyH_done (by kernel_rfl) ?_ _
        go_wp2_with fail
        go_ret2
        exact HF.out _ _ _ _ _ U29.out (.inl ⟨rfl, rfl⟩)
    · rw [if_pos (by rfl)]
      go_simp
      refine hK.out _ _ V23.out.make.b (fun hS31 => ?_)
      clear hK
      have V31 := V23.out.make
      obtain ⟨n31, hn31⟩ : ∃ n, n = z23.heap.size := ⟨_, rfl⟩
      obtain ⟨z31, hz31⟩ : ∃ z, z = z23.alloc (.map #[] 0) := ⟨_, rfl⟩
      try simp only [Act.put, List.setIfInBounds_toArray, List.set_cons_zero, List.set_cons_succ]
      rw [← hn31, ← hz31] at V31
      rw [← hz31] at hS31
      rw [← hn31, ← hz31]
      replace V31 := hid_in V31
      clear hn31 hz31
      refine consR (fuel := 5) (i := 4) rfl (by kernel_rfl) (fun K hK => ?_)
      rw [if_pos (by rfl)]
      go_simp
      refine (HP1.out _ _ V31.out).mono ?_
      rintro e z32 ⟨rfl, U32⟩
      refine hK.out _ _ U32.out.b (fun hS32 => ?_)
      clear hK
      try simp only [Act.put, List.setIfInBounds_toArray, List.set_cons_zero, List.set_cons_succ]
      refine consR (fuel := 4) (i := 8) rfl (by kernel_rfl) (fun K hK => ?_)
      rw [if_pos (by rfl)]
      go_simp
      refine (HP2.out _ _ U32.out).mono ?_
      rintro e z33 ⟨rfl, U33⟩
      refine hK.out _ _ U33.out.b (fun hS33 => ?_)
      clear hK
      try simp only [Act.put, List.setIfInBounds_toArray, List.set_cons_zero, List.set_cons_succ]
      refine takeR (fuel := 3) (i := 11) (v := .agg #[.int .i64 need, .int .i64 P1, .int .i64 P2, .map (some n23), .map (some n31)]) rfl (by kernel_rfl) (by kernel_rfl) (by kernel_rfl) (fun _ _ _ h => h) (Or.inl ⟨rfl, fun W hW => by go_simp⟩) hS33 ?_
      simp only [Act.put, List.setIfInBounds_toArray, List.set_cons_zero, List.set_cons_succ]
      refine consR (fuel := 2) (i := 12) rfl (by kernel_rfl) (fun K hK => ?_)
      rw [if_pos (by rfl)]
      go_simp
      refine hK.out _ _ (U33.out.b.alloc U33.out.b.size _) (fun hS34 => ?_)
      clear hK
      try simp only [Act.put, List.setIfInBounds_toArray, List.set_cons_zero, List.set_cons_succ]
      refine takeR (fuel := 1) (i := 13) (v := .pointer (some ⟨z33.heap.size, 0, none⟩)) rfl (by kernel_rfl) (by kernel_rfl) (by kernel_rfl) (fun _ _ _ h => h) (Or.inl ⟨rfl, fun W hW => by go_simp⟩) hS34 ?_
      simp only [Act.put, List.setIfInBounds_toArray, List.set_cons_zero, List.set_cons_succ]
      refine takeR (fuel := 0) (i := 14) (v := .int .i64 0) rfl (by kernel_rfl) (by kernel_rfl) (by kernel_rfl) (fun _ _ _ h => h) (Or.inl ⟨rfl, fun W hW => by go_simp⟩) hS34 ?_
      simp only [Act.put, List.setIfInBounds_toArray, List.set_cons_zero, List.set_cons_succ]
      refine wpAnyH_done (by kernel_rfl) ?_ _
      go_wp2_with fail
      go_ret2
      exact HF.out _ _ _ _ _ U33.out (.inl ⟨rfl, rfl⟩)
  · rw [if_pos (by rfl)]
    go_simp
    refine hK.out _ _ U0.out.make.b (fun hS35 => ?_)
    clear hK
    have V35 := U0.out.make
    obtain ⟨n35, hn35⟩ : ∃ n, n = z0.heap.size := ⟨_, rfl⟩
    obtain ⟨z35, hz35⟩ : ∃ z, z = z0.alloc (.map #[] 0) := ⟨_, rfl⟩
    try simp only [Act.put, List.setIfInBounds_toArray, List.set_cons_zero, List.set_cons_succ]
    rw [← hn35, ← hz35] at V35
    rw [← hz35] at hS35
    rw [← hn35, ← hz35]
    replace V35 := hid_in V35
    clear hn35 hz35
    refine consR2 (fuel := 6) (i := 4) (j := 9) rfl rfl (by kernel_rfl) (fun K hK => ?_) (fun K hK => ?_)
    · rw [if_pos (by rfl)]
      go_simp
      refine (HP1.out _ _ V35.out).mono ?_
      rintro e z36 ⟨rfl, U36⟩
      refine hK.out _ _ U36.out.b (fun hS36 => ?_)
      clear hK
      try simp only [Act.put, List.setIfInBounds_toArray, List.set_cons_zero, List.set_cons_succ]
      refine consR2 (fuel := 5) (i := 8) (j := 9) rfl rfl (by kernel_rfl) (fun K hK => ?_) (fun K hK => ?_)
      · rw [if_pos (by rfl)]
        go_simp
        refine (HP2.out _ _ U36.out).mono ?_
        rintro e z37 ⟨rfl, U37⟩
        refine hK.out _ _ U37.out.b (fun hS37 => ?_)
        clear hK
        try simp only [Act.put, List.setIfInBounds_toArray, List.set_cons_zero, List.set_cons_succ]
        refine consR (fuel := 4) (i := 9) rfl (by kernel_rfl) (fun K hK => ?_)
        rw [if_pos (by rfl)]
        go_simp
        refine hK.out _ _ U37.out.make.b (fun hS38 => ?_)
        clear hK
        have V38 := U37.out.make
        obtain ⟨n38, hn38⟩ : ∃ n, n = z37.heap.size := ⟨_, rfl⟩
        obtain ⟨z38, hz38⟩ : ∃ z, z = z37.alloc (.map #[] 0) := ⟨_, rfl⟩
        try simp only [Act.put, List.setIfInBounds_toArray, List.set_cons_zero, List.set_cons_succ]
        rw [← hn38, ← hz38] at V38
        rw [← hz38] at hS38
        rw [← hn38, ← hz38]
        replace V38 := hid_in V38
        clear hn38 hz38
        refine takeR (fuel := 3) (i := 11) (v := .agg #[.int .i64 need, .int .i64 P1, .int .i64 P2, .map (some n38), .map (some n35)]) rfl (by kernel_rfl) (by kernel_rfl) (by kernel_rfl) (fun _ _ _ h => h) (Or.inl ⟨rfl, fun W hW => by go_simp⟩) hS38 ?_
        simp only [Act.put, List.setIfInBounds_toArray, List.set_cons_zero, List.set_cons_succ]
        refine consR (fuel := 2) (i := 12) rfl (by kernel_rfl) (fun K hK => ?_)
        rw [if_pos (by rfl)]
        go_simp
        refine hK.out _ _ (V38.out.b.alloc V38.out.b.size _) (fun hS39 => ?_)
        clear hK
        try simp only [Act.put, List.setIfInBounds_toArray, List.set_cons_zero, List.set_cons_succ]
        refine takeR (fuel := 1) (i := 13) (v := .pointer (some ⟨z38.heap.size, 0, none⟩)) rfl (by kernel_rfl) (by kernel_rfl) (by kernel_rfl) (fun _ _ _ h => h) (Or.inl ⟨rfl, fun W hW => by go_simp⟩) hS39 ?_
        simp only [Act.put, List.setIfInBounds_toArray, List.set_cons_zero, List.set_cons_succ]
        refine takeR (fuel := 0) (i := 14) (v := .int .i64 0) rfl (by kernel_rfl) (by kernel_rfl) (by kernel_rfl) (fun _ _ _ h => h) (Or.inl ⟨rfl, fun W hW => by go_simp⟩) hS39 ?_
        simp only [Act.put, List.setIfInBounds_toArray, List.set_cons_zero, List.set_cons_succ]
        refine wpAnyH_done (by kernel_rfl) ?_ _
        go_wp2_with fail
        go_ret2
        exact HF.out _ _ _ _ _ V38.out (.inr ⟨rfl, rfl⟩)
      · rw [if_pos (by rfl)]
        go_simp
        refine hK.out _ _ U36.out.make.b (fun hS40 => ?_)
        clear hK
        have V40 := U36.out.make
        obtain ⟨n40, hn40⟩ : ∃ n, n = z36.heap.size := ⟨_, rfl⟩
        obtain ⟨z40, hz40⟩ : ∃ z, z = z36.alloc (.map #[] 0) := ⟨_, rfl⟩
        try simp only [Act.put, List.setIfInBounds_toArray, List.set_cons_zero, List.set_cons_succ]
        rw [← hn40, ← hz40] at V40
        rw [← hz40] at hS40
        rw [← hn40, ← hz40]
        replace V40 := hid_in V40
        clear hn40 hz40
        refine consR (fuel := 4) (i := 8) rfl (by kernel_rfl) (fun K hK => ?_)
        rw [if_pos (by rfl)]
        go_simp
        refine (HP2.out _ _ V40.out).mono ?_
        rintro e z41 ⟨rfl, U41⟩
        refine hK.out _ _ U41.out.b (fun hS41 => ?_)
        clear hK
        try simp only [Act.put, List.setIfInBounds_toArray, List.set_cons_zero, List.set_cons_succ]
        refine takeR (fuel := 3) (i := 11) (v := .agg #[.int .i64 need, .int .i64 P1, .int .i64 P2, .map (some n40), .map (some n35)]) rfl (by kernel_rfl) (by kernel_rfl) (by kernel_rfl) (fun _ _ _ h => h) (Or.inl ⟨rfl, fun W hW => by go_simp⟩) hS41 ?_
        simp only [Act.put, List.setIfInBounds_toArray, List.set_cons_zero, List.set_cons_succ]
        refine consR (fuel := 2) (i := 12) rfl (by kernel_rfl) (fun K hK => ?_)
        rw [if_pos (by rfl)]
        go_simp
        refine hK.out _ _ (U41.out.b.alloc U41.out.b.size _) (fun hS42 => ?_)
        clear hK
        try simp only [Act.put, List.setIfInBounds_toArray, List.set_cons_zero, List.set_cons_succ]
        refine takeR (fuel := 1) (i := 13) (v := .pointer (some ⟨z41.heap.size, 0, none⟩)) rfl (by kernel_rfl) (by kernel_rfl) (by kernel_rfl) (fun _ _ _ h => h) (Or.inl ⟨rfl, fun W hW => by go_simp⟩) hS42 ?_
        simp only [Act.put, List.setIfInBounds_toArray, List.set_cons_zero, List.set_cons_succ]
        refine takeR (fuel := 0) (i := 14) (v := .int .i64 0) rfl (by kernel_rfl) (by kernel_rfl) (by kernel_rfl) (fun _ _ _ h => h) (Or.inl ⟨rfl, fun W hW => by go_simp⟩) hS42 ?_
        simp only [Act.put, List.setIfInBounds_toArray, List.set_cons_zero, List.set_cons_succ]
        refine wpAnyH_done (by kernel_rfl) ?_ _
        go_wp2_with fail
        go_ret2
        exact HF.out _ _ _ _ _ U41.out (.inr ⟨rfl, rfl⟩)
    · rw [if_pos (by rfl)]
      go_simp
      refine hK.out _ _ V35.out.make.b (fun hS43 => ?_)
      clear hK
      have V43 := V35.out.make
      obtain ⟨n43, hn43⟩ : ∃ n, n = z35.heap.size := ⟨_, rfl⟩
      obtain ⟨z43, hz43⟩ : ∃ z, z = z35.alloc (.map #[] 0) := ⟨_, rfl⟩
      try simp only [Act.put, List.setIfInBounds_toArray, List.set_cons_zero, List.set_cons_succ]
      rw [← hn43, ← hz43] at V43
      rw [← hz43] at hS43
      rw [← hn43, ← hz43]
      replace V43 := hid_in V43
      clear hn43 hz43
      refine consR (fuel := 5) (i := 4) rfl (by kernel_rfl) (fun K hK => ?_)
      rw [if_pos (by rfl)]
      go_simp
      refine (HP1.out _ _ V43.out).mono ?_
      rintro e z44 ⟨rfl, U44⟩
      refine hK.out _ _ U44.out.b (fun hS44 => ?_)
      clear hK
      try simp only [Act.put, List.setIfInBounds_toArray, List.set_cons_zero, List.set_cons_succ]
      refine consR (fuel := 4) (i := 8) rfl (by kernel_rfl) (fun K hK => ?_)
      rw [if_pos (by rfl)]
      go_simp
      refine (HP2.out _ _ U44.out).mono ?_
      rintro e z45 ⟨rfl, U45⟩
      refine hK.out _ _ U45.out.b (fun hS45 => ?_)
      clear hK
      try simp only [Act.put, List.setIfInBounds_toArray, List.set_cons_zero, List.set_cons_succ]
      refine takeR (fuel := 3) (i := 11) (v := .agg #[.int .i64 need, .int .i64 P1, .int .i64 P2, .map (some n43), .map (some n35)]) rfl (by kernel_rfl) (by kernel_rfl) (by kernel_rfl) (fun _ _ _ h => h) (Or.inl ⟨rfl, fun W hW => by go_simp⟩) hS45 ?_
      simp only [Act.put, List.setIfInBounds_toArray, List.set_cons_zero, List.set_cons_succ]
      refine consR (fuel := 2) (i := 12) rfl (by kernel_rfl) (fun K hK => ?_)
      rw [if_pos (by rfl)]
      go_simp
      refine hK.out _ _ (U45.out.b.alloc U45.out.b.size _) (fun hS46 => ?_)
      clear hK
      try simp only [Act.put, List.setIfInBounds_toArray, List.set_cons_zero, List.set_cons_succ]
      refine takeR (fuel := 1) (i := 13) (v := .pointer (some ⟨z45.heap.size, 0, none⟩)) rfl (by kernel_rfl) (by kernel_rfl) (by kernel_rfl) (fun _ _ _ h => h) (Or.inl ⟨rfl, fun W hW => by go_simp⟩) hS46 ?_
      simp only [Act.put, List.setIfInBounds_toArray, List.set_cons_zero, List.set_cons_succ]
      refine takeR (fuel := 0) (i := 14) (v := .int .i64 0) rfl (by kernel_rfl) (by kernel_rfl) (by kernel_rfl) (fun _ _ _ h => h) (Or.inl ⟨rfl, fun W hW => by go_simp⟩) hS46 ?_
      simp only [Act.put, List.setIfInBounds_toArray, List.set_cons_zero, List.set_cons_succ]
      refine wpAnyH_done (by kernel_rfl) ?_ _
      go_wp2_with fail
      go_ret2
      exact HF.out _ _ _ _ _ U45.out (.inr ⟨rfl, rfl⟩)
end Go.Proofs.YtdfadcbchiogjaaGreat
