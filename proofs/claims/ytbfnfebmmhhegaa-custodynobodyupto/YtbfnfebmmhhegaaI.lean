/- layer 11: slices.Backward; takeBack -/
import Derived.Test.YtbfnfebmmhhegaaG
import Derived.Test.YtbfnfebmmhhegaaH
import Derived.WalkKit
import Derived.ProofKit
import Derived.Handy
import Derived.WalkLawsBesides
import Derived.WalkSpells
import Derived.BigQuiet
import Derived.BigCall
import Derived.Deep.QuietTactic
import Derived.Deep.Light
import Derived.Deep.OwnRows
import Derived.Laws.AppendOwnNone
import Derived.Laws.Strings3
import Derived.Laws.RangeAny
import Derived.Deep.RegionWith
import Derived.Lib.BitFns
import Derived.Lib.Walk
import Derived.Lib.Strings
import Derived.Lib.OthersKept
import Derived.Deep.CutBlock
import Derived.Deep.DeepCutAuto
import Derived.Deep.LoopGhost
import Derived.Deep.RegionHeld3
import Derived.Lib.SmallJoins
import Derived.Maps.AppendAt
import Derived.Laws.IdiomStrings
import Derived.Lib.AppendZeros
import Derived.Deep.WholeRow
import Derived.Laws.BitsAllLaws
import Derived.Lib.ConvBytes
import Derived.Deep.RegionLaw
import Derived.Maps.OwnSet
import Derived.Maps.OwnOps
import Derived.Maps.RangeWalk
import Derived.Maps.Ext
import Derived.DeepKeys4
import Derived.Laws.StructEq
import Derived.RangeFuncNested
import Derived.RangeFuncBound
import Derived.RangeFuncCalls
import Derived.RangeFuncLeaves
import Derived.Shelf.Abstract
import Derived.Shelf.RegionOpen
import Derived.OwnWalkIn
import Derived.TacticsInMore
import Derived.LoopNIn
import Derived.LoopIn
namespace Go.Proofs.Ytbfnfebmmhhegaa
open Go.RowKit
set_option linter.unusedVariables false
set_option linter.unusedSimpArgs false
open Go.Shelf
attribute [local go_sem] Oper.semAt_some
abbrev Al := Nat × Ok7
def en (x : Al) : Array Value := #[.int .i64 (x.1 : Int), .agg x.2.1.cs]
theorem back_in (w : World) (n : Nat) (a : Option Addr) (len cap : Nat) :
    CallsIn Fence.wide n Try.prog 78 #[.slice a len cap] w fun e w' => e = .returned (.func (.func 88) #[] #[.pointer (some ⟨w.heap.size, 0, none⟩)]) ∧ w' = w.alloc (.cells #[.slice a len cap] 95) := by
  refine callsIn_of_wp Try.func78 rfl trivial ?_ rfl
  simp only [Try.ntmps78, List.size_toArray, List.length_cons, List.length_nil, Nat.reduceAdd, Nat.reduceSub, Array.replicate_succ, Array.replicate_zero, List.push_toArray, List.append_toArray, List.nil_append, List.cons_append]
  gi_wp2
  go_ret
  exact ⟨rfl, rfl⟩
set_option maxRecDepth 100000 in
set_option maxHeartbeats 2000000 in
theorem back1_in (n : Nat) (hn : 1 ≤ n) (l Bs B m blk off len cap : Nat) (xs : List Ok7) (hlen : xs.length = len) (hB : blk < B) (hm : blk ≠ m) (hBs : Bs < B) (hBm : Bs ≠ m) (hle : len ≤ 1000000) (J Jx : List Al → World → Prop)
    (hY : ∀ pre x W, J pre W → pre.length < len → YieldAt Fence.wide (n - 1) Try.prog l (en x) W fun e W' =>
      (e = .returned (.bool true) ∧ J (pre ++ [x]) W' ∧ Kb B m W W') ∨ (e = .returned (.bool false) ∧ Jx (pre ++ [x]) W'))
    (W : World) (hc0 : W.cell? ⟨Bs, 0, none⟩ = some (.slice (some ⟨blk, off, none⟩) len cap)) (hc : ∀ i (h : i < xs.length), ∀ k, k < 7 → W.cell? ⟨blk, off + i * 7 + k, none⟩ = (xs[i].1.cs)[k]?) (h0 : J [] W) :
    CallsIn Fence.wide n Try.prog 88 #[.func (.yield l) #[] #[], .pointer (some ⟨Bs, 0, none⟩)] W fun e W' => (∃ v, e = .returned v) ∧
      ((∃ ys : List Al, ys.map (·.2) = xs.reverse ∧ J ys W') ∨ (∃ pre, Jx pre W')) := by
  refine callsIn_of_wp Try.func88 rfl trivial ?_ rfl
  simp only [Try.ntmps88, List.size_toArray, List.length_cons, List.length_nil, Nat.reduceAdd, Nat.reduceSub, Array.replicate_succ, Array.replicate_zero, List.push_toArray, List.append_toArray, List.nil_append, List.cons_append]
  gi_wp2
  gi_loopw [3] (fun i wr => ∃ (k : Nat) (pre : List Al), k ≤ len ∧ i = .int .i64 ((k : Int) - 1) ∧ pre.map (·.2) = (xs.drop k).reverse ∧ J pre wr ∧ Kb B m W wr)
    (fun i _ => ((intOf i) + 1).toNat)
  case atStart => exact ⟨len, [], Nat.le_refl _, rfl, by simp [← hlen], h0, Kb.refl _ _ _⟩
  case round =>
    obtain ⟨k, pre, hk, rfl, hp, hJ, hK⟩ := hrel
    have hpl : pre.length = len - k := by
      have := congrArg List.length hp
      simpa [hlen] using this
    rcases k with _ | j
    · have hz : ((0 : Nat) : Int) - 1 = -1 := rfl
      rw [hz]
      gi_wp2
      go_end0
      exact ⟨⟨_, rfl⟩, .inl ⟨pre, by simpa using hp, hJ⟩⟩
    · have hz : ((j + 1 : Nat) : Int) - 1 = (j : Int) := by omega
      rw [hz]
      have hj : j < xs.length := by omega
      have hd : xs.drop j = xs[j] :: xs.drop (j + 1) := List.drop_eq_getElem_cons hj
      have hx7 := hc j hj
      have HP : Hid (∀ x : Ok7, x = xs[j] → (pre ++ [((j, x) : Al)]).map (·.2) = (xs.drop j).reverse) := by
        intro x hx
        rw [List.map_append, hp, hd, List.reverse_cons, hx]
        rfl
      obtain ⟨x, hx⟩ : ∃ x : Ok7, x = xs[j] := ⟨_, rfl⟩
      rw [← hx] at hx7
      have HP2 := HP.out x hx
      obtain ⟨fn, tmps, assign, body, hy, hR⟩ := hY pre (j, x) wr hJ (by omega)
      obtain ⟨⟨o, b, s, o2, b2, s2, n7⟩, hok⟩ := x
      have cw : ∀ k v, k < 7 → (#[Value.int .i64 o, .int .i64 b, .string s, .int .i64 o2, .int .i64 b2, .string s2, .int .i64 n7])[k]? = some v → wr.cell? ⟨blk, off + j * 7 + k, none⟩ = some v := fun k v h1 h2 => (hK.cell (p := ⟨blk, off + j * 7 + k, none⟩) hB hm).trans ((hx7 k h1).trans h2)
      have c0 : wr.cell? ⟨blk, off + j * 7, none⟩ = some (.int .i64 o) := cw 0 _ (by omega) rfl
      have c1 : wr.cell? ⟨blk, off + j * 7 + 1, none⟩ = some (.int .i64 b) := cw 1 _ (by omega) rfl
      have c2 : wr.cell? ⟨blk, off + j * 7 + 2, none⟩ = some (.string s) := cw 2 _ (by omega) rfl
      have c3 : wr.cell? ⟨blk, off + j * 7 + 3, none⟩ = some (.int .i64 o2) := cw 3 _ (by omega) rfl
      have c4 : wr.cell? ⟨blk, off + j * 7 + 4, none⟩ = some (.int .i64 b2) := cw 4 _ (by omega) rfl
      have c5 : wr.cell? ⟨blk, off + j * 7 + 5, none⟩ = some (.string s2) := cw 5 _ (by omega) rfl
      have c6 : wr.cell? ⟨blk, off + j * 7 + 6, none⟩ = some (.int .i64 n7) := cw 6 _ (by omega) rfl
      have cs : wr.cell? ⟨Bs, 0, none⟩ = some (.slice (some ⟨blk, off, none⟩) len cap) := (hK.cell (p := ⟨Bs, 0, none⟩) hBs hBm).trans hc0
      have hjl : j < len := by omega
      have HK : Hid (Kb B m W wr) := hK
      have HPP : Hid (((pre ++ [((j, ⟨⟨o, b, s, o2, b2, s2, n7⟩, hok⟩) : Al)]).map (·.2)) = (xs.drop j).reverse) := HP2
      dsimp only [en, Ex.cs] at hy
      clear hx7 cw hx HP HP2 hd hp hz hpl
      gi_wp2
      refine hR.mono ?_
      rintro e W3 (⟨rfl, hJ3, hk3⟩ | ⟨rfl, hJx3⟩)
      · have HK3 : Hid (Kb B m W W3) := HK.out.trans hk3
        clear c0 c1 c2 c3 c4 c5 c6 cs hk3
        gi_wp2
        go_roundw
        case rel => exact ⟨j, _, by omega, rfl, HPP.out, hJ3, HK3.out⟩
        case measure => simp [intOf]
      · gi_wp2
        refine bodyPost_ret (results_none rfl _ _ _) rfl ?_
        exact ⟨⟨_, rfl⟩, .inr ⟨_, hJx3⟩⟩
set_option maxRecDepth 100000 in
set_option maxHeartbeats 1000000 in
theorem back0_in (n : Nat) (l Bs cap : Nat) (a : Option Addr) (J : List Al → World → Prop) (W : World) (hc0 : W.cell? ⟨Bs, 0, none⟩ = some (.slice a 0 cap)) (h0 : J [] W) :
    CallsIn Fence.wide n Try.prog 88 #[.func (.yield l) #[] #[], .pointer (some ⟨Bs, 0, none⟩)] W fun e W' => (∃ v, e = .returned v) ∧ J [] W' := by
  refine callsIn_of_wp Try.func88 rfl trivial ?_ rfl
  simp only [Try.ntmps88, List.size_toArray, List.length_cons, List.length_nil, Nat.reduceAdd, Nat.reduceSub, Array.replicate_succ, Array.replicate_zero, List.push_toArray, List.append_toArray, List.nil_append, List.cons_append]
  gi_wp2
  gi_loopw [3] (fun i wr => i = .int .i64 (-1) ∧ J [] wr) (fun _ _ => 0)
  case atStart => exact ⟨rfl, h0⟩
  case round =>
    obtain ⟨rfl, hJs⟩ := hrel
    gi_wp2
    go_end0
    exact ⟨⟨_, rfl⟩, hJs⟩
theorem back_stops (n : Nat) (hn : 1 ≤ n) (Bs B m : Nat) (v : Value) (xs : List Ok7) (hle : xs.length ≤ 1000000) (w : World) (hBs : Bs < B) (hBm : Bs ≠ m) (hB : B ≤ w.heap.size) (hc : w.cell? ⟨Bs, 0, none⟩ = some v) (he : Es B m w v (xs.map (·.1))) :
    SeqStopsK Fence.wide n Try.prog 88 #[.pointer (some ⟨Bs, 0, none⟩)] en (Kb B m) (fun ys => ys.map (·.2) = xs.reverse) (fun _ => True) xs.length w := fun l J Jx W hW _ _ hY h0 => by
  have hc' := (hW.cell (p := ⟨Bs, 0, none⟩) (Nat.lt_of_lt_of_le hBs hB)).trans hc
  obtain ⟨a, cap, rfl, h1⟩ := he
  simp only [List.length_map] at hc'
  by_cases hx : 0 < xs.length
  · obtain ⟨blk, off, rfl, h3, h4, h5⟩ := h1 (by simpa using hx)
    refine (back1_in n hn l Bs B m blk off xs.length cap xs rfl h3 h4 hBs hBm hle J Jx hY W hc' (fun i hi k hk => ?_) h0).mono ?_
    · refine (hW.cell (p := ⟨blk, off + i * 7 + k, none⟩) (Nat.lt_of_lt_of_le h3 hB)).trans ?_
      have := h5 i (by simpa using hi) k hk
      simpa using this
    · rintro e W' ⟨h6, h7 | ⟨pre, h7⟩⟩
      · exact ⟨h6, .inl h7⟩
      · exact ⟨h6, .inr ⟨pre, trivial, h7⟩⟩
  · obtain rfl : xs = [] := List.length_eq_zero_iff.1 (by omega)
    exact (back0_in n l Bs cap a J W hc' h0).mono fun e W' ⟨h2, h3⟩ => ⟨h2, .inl ⟨[], rfl, h3⟩⟩
theorem Es.mono {B B' m : Nat} {w : World} {v : Value} {xs : List Ex} (h : Es B m w v xs) (hB : B ≤ B') : Es B' m w v xs := by
  obtain ⟨a, cap, rfl, h1⟩ := h
  refine ⟨a, cap, rfl, fun h2 => ?_⟩
  obtain ⟨blk, off, rfl, h3, h4, h5⟩ := h1 h2
  exact ⟨blk, off, rfl, by omega, h4, h5⟩
theorem mono_wide {n : Nat} {f : FuncId} {args : Array Value} {w : World} {R : Ending → World → Prop} (h : Calls Try.prog f args w R) : CallsIn Fence.wide n Try.prog f args w R := callsIn_wide.2 h
set_option maxRecDepth 100000 in
set_option maxHeartbeats 4000000 in
theorem xback (q m : Nat) (L : List Num.Bal) (xs : List Ok7) (v : Value) (w : World) (h : Lg w q m L) (hg : ∀ a, -72057594037927936 ≤ Num.get L a ∧ Num.get L a ≤ 72057594037927936) (hl : L.length ≤ 1000000) (hx : xs.length ≤ 4096) (he : Es w.heap.size m w v (xs.map (·.1))) :
    Calls Try.prog 64 #[.pointer (some ⟨q, 0, none⟩), v] w (PutP q m (undo L xs.reverse) w) := by
  refine (callsIn_wide (n := 6)).1 ?_
  obtain ⟨a, cap, rfl, he'⟩ := he
  have he : Es w.heap.size m w (.slice a (xs.map (·.1)).length cap) (xs.map (·.1)) := ⟨a, cap, rfl, he'⟩
  rw [List.length_map] at he ⊢
  clear he'
  have hml : m < w.heap.size := h.m.lt
  refine callsIn_of_wp_marks Try.func64 rfl trivial ?_ rfl
  simp only [Try.ntmps64, List.size_toArray, List.length_cons, List.length_nil, Nat.reduceAdd, Nat.reduceSub, Array.replicate_succ, Array.replicate_zero, List.push_toArray, List.append_toArray, List.nil_append, List.cons_append]
  gi_wp2_with (refine ⟨trivial, ?_⟩; gi_at_call 78; refine (back_in _ _ _ _ _).mono ?_; rintro e w' ⟨rfl, rfl⟩)
  have hK0 : Kb w.heap.size m w ((w.alloc (.cells #[.pointer (some ⟨q, 0, none⟩)] 76)).alloc (.cells #[.slice a xs.length cap] 95)) := Kb.of_grown (grown_trans (grown_alloc w _ none) (grown_alloc _ _ none)) (Nat.le_refl _) (by simp)
  have hL0 := (h.alloc (.cells #[.pointer (some ⟨q, 0, none⟩)] 76)).alloc (.cells #[.slice a xs.length cap] 95)
  have bQ : Bx ((w.alloc (.cells #[.pointer (some ⟨q, 0, none⟩)] 76)).alloc (.cells #[.slice a xs.length cap] 95)) w.heap.size #[.pointer (some ⟨q, 0, none⟩)] 76 := (Bx.new w _ _).kept (grown_alloc _ _ none) (by simp)
  have bS := Bx.new (w.alloc (.cells #[.pointer (some ⟨q, 0, none⟩)] 76)) #[.slice a xs.length cap] 95
  rw [World.size_alloc] at bS
  have hsz : ((w.alloc (.cells #[.pointer (some ⟨q, 0, none⟩)] 76)).alloc (.cells #[.slice a xs.length cap] 95)).heap.size = w.heap.size + 2 := by simp
  have hES : Es (w.heap.size + 2) m ((w.alloc (.cells #[.pointer (some ⟨q, 0, none⟩)] 76)).alloc (.cells #[.slice a xs.length cap] 95)) (.slice a xs.length cap) (xs.map (·.1)) := (he.keep hK0).mono (by omega)
  obtain ⟨W0, hW0⟩ : ∃ W0, (w.alloc (.cells #[.pointer (some ⟨q, 0, none⟩)] 76)).alloc (.cells #[.slice a xs.length cap] 95) = W0 := ⟨_, rfl⟩
  rw [hW0] at hK0 hL0 bQ bS hsz hES ⊢
  clear hW0
  have hqw := h.b.lt
  refine wpIn_rangeFunc_ownH rfl (by omega) (gf := 88) (lb := #[.pointer (some ⟨w.heap.size + 1, 0, none⟩)]) rfl trivial (enters_of Try.func88 (by kernel_rfl) rfl)
    (back_stops (6 - 1) (by omega) (w.heap.size + 1) (w.heap.size + 2) m (.slice a xs.length cap) xs (by omega) W0 (by omega) (by omega) (by omega) (bS.cell 0) hES) (fun h k => Kb.trans h k)
    (fun W l o o' h1 h2 _ _ => Kb.of_grown (grownBy_putObj' W l o') (by have := (Array.getElem?_eq_some_iff.1 h2).1; omega) (fun r e => by cases e; left; omega)) (Below.refl _ _) (fun _ => rfl)
    (fun (pre : List Al) W => (Bx W w.heap.size #[.pointer (some ⟨q, 0, none⟩)] 76 ∧ Lg W q m (undo L (pre.map (fun x : Al => x.2)))) ∧ (Kb w.heap.size m w W ∧ w.heap.size + 2 ≤ W.heap.size))
    (fun _ _ _ => False)
    (fun s A B row hs hg' hr => ⟨⟨hs.1.1.kept hg' (fun e => by have := (hr _ e.symm).1; omega), hs.1.2.kept hg' (fun e => by have := (hr _ e.symm).1; omega) (fun e => by have := (hr _ e.symm).1; omega)⟩, hs.2.1.trans (Kb.of_grown hg' hs.2.1.size (fun r e => by left; have := (hr r e).1; omega)), Nat.le_trans hs.2.2 hg'.size⟩)
    (fun _ _ _ _ _ hs _ _ => hs)
    ⟨⟨bQ, hL0⟩, hK0, by omega⟩
    (fun x a' W => ∃ y, w.heap.size + 1 < y ∧ Bx W y x.2.1.cs 94 ∧ a' = { tmps := #[.pointer (some ⟨q, 0, none⟩), .slice a xs.length cap, .pointer (some ⟨w.heap.size, 0, none⟩), undef, undef, .pointer (some ⟨y, 0, none⟩), .slice a xs.length cap, .func (.func 88) #[] #[.pointer (some ⟨w.heap.size + 1, 0, none⟩)], .int .i64 (x.1 : Int), .agg x.2.1.cs, undef, undef, undef, undef, undef, undef, undef, undef], defers := [] })
    (fun x a' _ X Y row hs hg' hr => by
      obtain ⟨y, h1, h2, h3⟩ := hs
      refine ⟨y, h1, h2.kept hg' (fun e => ?_), h3⟩
      obtain ⟨_, o, ho, hc⟩ := hr y e.symm
      rw [show X.heap[y]? = _ from h2] at ho
      cases ho
      cases hc)
    ?assign ?body ?done ?stop
  case assign =>
    rintro l pre x W K ⟨⟨bQ1, hL1⟩, hK1, hz⟩ hK
    obtain ⟨i, ⟨⟨o, b, s, o2, b2, s2, n7⟩, hok⟩⟩ := x
    dsimp only [en, Ex.cs]
    gi_wp2
    refine hK _ _ ((KeepsOthers.alloc _ _).from _) (Kb.of_grown (grown_alloc W _ none) hz (by simp)) ⟨⟨bQ1.kept (grown_alloc W _ none) (by simp), hL1.alloc _⟩, hK1.trans (Kb.of_grown (grown_alloc W _ none) hK1.size (by simp)), by simp; omega⟩ ⟨W.heap.size, by omega, Bx.new W _ _, rfl⟩
  case body =>
    rintro l pre x a' W hl' ⟨r, hr⟩ ⟨⟨bQ1, hL1⟩, hK1, hz⟩ ⟨y, hy, bX, rfl⟩ hlt
    obtain ⟨i, ⟨⟨o, b, s, o2, b2, s2, n7⟩, hok⟩⟩ := x
    have hu := undo_len L (pre.map (fun x : Al => x.2))
    have hgb := undo_get L (pre.map (fun x : Al => x.2)) 72057594037927936 (by intro a; have := hg a; omega)
    rw [List.length_map] at hu
    simp only [List.length_map] at hgb
    have HS : Hid (undo L ((pre ++ [((i, ⟨⟨o, b, s, o2, b2, s2, n7⟩, hok⟩) : Al)]).map (fun x : Al => x.2)) = Num.mv (undo L (pre.map (fun x : Al => x.2))) (o2, b2, s2.toList) (o, b, s.toList) n7) := by
      unfold Hid
      rw [List.map_append, List.map_singleton, undo_snoc]
    have e1 : 1 ≤ n7 := hok.a1
    have e2 : n7 ≤ 1125899906842624 := hok.a2
    have e3 : Num.wr (o, b, s.toList) = 0 := hok.f
    have e4 : Num.wr (o2, b2, s2.toList) = 0 := hok.t
    have z1 : s.size ≤ 281474976710656 := by have := (Num.wr_ok.1 e3).2.2.2.2.2; rw [size_toList] at this; omega
    have z2 : s2.size ≤ 281474976710656 := by have := (Num.wr_ok.1 e4).2.2.2.2.2; rw [size_toList] at this; omega
    have HC : Hid (Calls Try.prog 65 #[.pointer (some ⟨q, 0, none⟩), .agg #[.int .i64 o2, .int .i64 b2, .string s2], .agg #[.int .i64 o, .int .i64 b, .string s], .int .i64 n7] W (PutP q m (Num.mv (undo L (pre.map (fun x : Al => x.2))) (o2, b2, s2.toList) (o, b, s.toList) n7) W)) := by
      refine xmove q m _ o2 b2 o b n7 s2 s W hL1 (wa_of e4) (wa_of e3) z2 z1 ?_ ?_ ?_
      · have := hgb (o2, b2, s2.toList); unfold Rng; omega
      · have k1 := hgb (o2, b2, s2.toList)
        have k2 := hgb (o, b, s.toList)
        rw [Num.get_set]
        unfold Rng
        split <;> omega
      · have e : maxLen = 9223372036854775807 := rfl
        omega
    have hs := hK1.size
    have HF : Hid (∀ W', Lg W' q m (Num.mv (undo L (pre.map (fun x : Al => x.2))) (o2, b2, s2.toList) (o, b, s.toList) n7) → W.grownBy W' (some m) → KeepsFrom W0.heap.size W W' ∧ Kb (w.heap.size + 2) m W W' ∧ (Bx W' w.heap.size #[.pointer (some ⟨q, 0, none⟩)] 76 ∧ Lg W' q m (undo L ((pre ++ [((i, ⟨⟨o, b, s, o2, b2, s2, n7⟩, hok⟩) : Al)]).map (fun x : Al => x.2)))) ∧ (Kb w.heap.size m w W' ∧ w.heap.size + 2 ≤ W'.heap.size)) := by
      intro W' k1 k2
      have hyl := bX.lt
      refine ⟨KeepsFrom.of_grownBy k2 (fun j e => by cases e; omega), Kb.of_grown k2 (by omega) (fun r e => by cases e; right; rfl), ⟨bQ1.kept k2 (by simp; omega), by rw [HS.out]; exact k1⟩, hK1.trans (Kb.of_grown k2 hs (fun r e => by cases e; right; rfl)), Nat.le_trans hz k2.size⟩
    have cq : W.cell? ⟨w.heap.size, 0, none⟩ = some (.pointer (some ⟨q, 0, none⟩)) := bQ1.cell 0
    have d0 : W.cell? ⟨y, 0, none⟩ = some (.int .i64 o) := bX.cell 0
    have d1 : W.cell? ⟨y, 1, none⟩ = some (.int .i64 b) := bX.cell 1
    have d2 : W.cell? ⟨y, 2, none⟩ = some (.string s) := bX.cell 2
    have d3 : W.cell? ⟨y, 3, none⟩ = some (.int .i64 o2) := bX.cell 3
    have d4 : W.cell? ⟨y, 4, none⟩ = some (.int .i64 b2) := bX.cell 4
    have d5 : W.cell? ⟨y, 5, none⟩ = some (.string s2) := bX.cell 5
    have d6 : W.cell? ⟨y, 6, none⟩ = some (.int .i64 n7) := bX.cell 6
    clear bX bQ1 hL1 hK1 hu hgb HS e1 e2 e3 e4 z1 z2 hs hES bS bQ hL0 hK0 he h hg
    dsimp only [Ex.cs]
    gi_wp2_with (refine ⟨trivial, ?_⟩; gi_at_call 65; refine (CallsIn.inRound l (mono_wide HC.out)).mono ?_; rintro e w' ⟨rfl, k1, k2⟩)
    exact HF.out _ k1 k2
  case done =>
    rintro D ys W hD hS ⟨⟨bQ1, hL1⟩, hK1, hz⟩ hK
    have hp := grownBy_putObj' W D (.deferred none)
    have hL2 := hL1.kept hp (by simp; omega) (by simp; omega)
    rw [hS] at hL2
    have hK2 := hK1.trans (Kb.of_grown hp hK1.size (fun r e => by cases e; left; omega))
    gi_wp2
    refine ⟨by simp, .inl ⟨_, _, rfl, run_takeDeferred hK, ?_⟩⟩
    exact ⟨_, results_none rfl _ _ _, rfl, hL2, hK2.grown⟩
  case stop =>
    rintro D c pre W _ _ h _
    exact h.elim
end Go.Proofs.Ytbfnfebmmhhegaa
