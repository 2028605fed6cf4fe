/- layer 16: values of a map, collected -/
import Derived.Test.YtdfadcbchiogjaaGreatNI
import Derived.WalkKit
import Derived.ProofKit
import Derived.Handy
import Derived.WalkLawsBesides
import Derived.WalkSpells
import Derived.BigQuiet
import Derived.BigCall
import Derived.Deep.QuietTactic
import Derived.Deep.Light
import Derived.Deep.OwnRows
import Derived.Laws.AppendOwnNone
import Derived.Laws.Strings3
import Derived.Laws.RangeAny
import Derived.Deep.RegionWith
import Derived.Lib.BitFns
import Derived.Lib.Walk
import Derived.Lib.Strings
import Derived.Lib.OthersKept
import Derived.Deep.CutBlock
import Derived.Deep.DeepCutAuto
import Derived.Deep.LoopGhost
import Derived.Deep.RegionHeld3
import Derived.Lib.SmallJoins
import Derived.Maps.AppendAt
import Derived.Laws.IdiomStrings
import Derived.Lib.AppendZeros
import Derived.Deep.WholeRow
import Derived.Laws.BitsAllLaws
import Derived.Lib.ConvBytes
import Derived.Deep.RegionLaw
import Derived.Maps.OwnSet
import Derived.Maps.OwnOps
import Derived.Maps.RangeWalk
import Derived.Maps.Ext
import Derived.DeepKeys4
import Derived.Laws.StructEq
import Derived.Deep.MidRow
import Derived.Lib.Bytealg
import Derived.Lib.AppendZerosOnto
import Derived.Laws.MakeOwn
import Derived.Deep.Upon
import Derived.Sort.KeysCollected
import Derived.Shelf.AbstractIn
import Derived.RangeFuncSeq
import Derived.RangeFuncGives
import Derived.Sort.MapsRangeIn
import Derived.OwnWalkIn
import Derived.TacticsInMore
import Derived.RegionIn
import Derived.LoopNIn
import Derived.LoopIn
import Derived.Lib.SlKeysI
namespace Go.Proofs.YtdfadcbchiogjaaGreat
open Go.RowKit
set_option linter.unusedVariables false
set_option linter.unusedSimpArgs false
set_option maxRecDepth 100000
open Go.Maps Go.Sort Go.Shelf
set_option maxHeartbeats 1000000 in
/-- the iterator over a map's values, for a loop that goes on -/
theorem vals_in {H : Type} (f : Int → Int) (n : Nat) (hn : 1 ≤ n) (l q b nn : Nat) (D0 : DataW H) {R : Value → Option (DataW H × List MemPlace)} (hR : ∀ a v y ps, R v = some (y, ps) → (∀ zd, D0.atKey (.int .i64 a) zd = y) → v = .int .i64 (f a)) (J : List Int → World → Prop)
    (hY : ∀ pre x W, J pre W → pre.length < Maps.size D0 → YieldAt Fence.wide (n - 1) Tryz.prog l #[encZ x] W fun e W' => e = .returned (.bool true) ∧ J (pre ++ [x]) W' ∧ KeepsWalks W W')
    (W : World) (hJ : AbidesFrom W.heap.size J) (hm : W.cell? ⟨q, 0, none⟩ = some (.map (some b))) (hown : W.ownsMap Tryz.prog 3 R b nn D0) (h0 : J [] W) :
    CallsIn Fence.wide n Tryz.prog 81 #[.func (.yield l) #[] #[], .pointer (some ⟨q, 0, none⟩)] W fun e W' => (∃ v, e = .returned v) ∧ ∃ ss : List Int, (∃ K : List Int, K.Perm (intKeys D0) ∧ ss = K.map f) ∧ J ss W' := by
  refine callsIn_of_wp Tryz.func81 rfl trivial ?_ rfl
  simp only [Tryz.ntmps81, List.size_toArray, List.length_cons, List.length_nil, Nat.reduceAdd, Nat.reduceSub, Array.replicate_succ, Array.replicate_zero, List.push_toArray, List.append_toArray, List.nil_append, List.cons_append]
  gi_wp2_with (first
    | (gi_at_range; refine wpListIn_range_own _ rfl _ 73 rfl 3 3 (int_keyed Tryz.underlying3) Tryz.underlying73 _ b nn _ rfl hown ?_; intro w0 hrg0 hg0 hs0)
    | gi_in)
  go_frame
  gi_loopw [4] (fun _ wr => ∃ (left : Lit → Bool) (cnt : Nat) (K : List Int), wr.ranges Tryz.prog 3 R b W.heap.size nn D0 left cnt ∧ K.length + cnt ≤ Maps.size D0 ∧ CollectedI D0 left K ∧ J (K.map f) wr)
    (fun _ wr => wr.rangeLeft b W.heap.size)
  case atStart =>
    exact ⟨_, _, [], hrg0, by simp, CollectedI.start D0, hJ [] W w0 none h0 hg0 (fun r e => by cases e)⟩
  case round =>
    obtain ⟨left, cnt, K, hrg, hcs, hC, hJs⟩ := hrel
    gi_wp2_with (first
      | (gi_at_next; refine wpListIn_next_ranges _ rfl _ rfl 3 (int_keyed Tryz.underlying3) R encZ id (fun key kl hk => by obtain ⟨x, hx, _⟩ := Maps.keyOf_i64 Tryz.underlying3 hk; exact ⟨x, hx⟩) (fun v _ _ => ⟨v, rfl⟩) b W.heap.size nn _ _ _ rfl hrg ?_ ?_)
      | gi_in)
    · intro hc0 hl0
      gi_wp2
      go_end0
      exact ⟨⟨_, rfl⟩, _, ⟨K, hC.perm hown (int_keyed Tryz.underlying3) Tryz.underlying3 hl0, rfl⟩, hJs⟩
    · intro x c kl yd yp w2 cnt2 hkey hlk hv hat hrg2 hlt hg2 hs2 hen
      obtain ⟨x', ex, rfl, _⟩ := Maps.keyOf_i64 Tryz.underlying3 hkey
      obtain rfl : x = x' := encZ_inj ex
      have ec : c = .int .i64 (f x) := hR x c yd yp hv hat
      subst ec
      have hJ2 : J (K.map f) w2 := hJ _ wr w2 (some W.heap.size) hJs hg2 (fun r e => by cases e; exact ⟨Nat.le_refl _, hrg.iter_walk⟩)
      obtain ⟨fn, tmps, assign, body, hy, hRd⟩ := hY (K.map f) (f x) w2 hJ2 (by simp; omega)
      clear hs2
      gi_wp2
      refine hRd.mono ?_
      rintro e W3 ⟨rfl, hJ3, hk3⟩
      gi_wp2
      have hrg3 := hrg2.of_walks hk3
      go_roundw
      case rel => exact ⟨_, cnt2, K ++ [x], hrg3, by simp; omega, hC.step hlk hat, by simpa using hJ3⟩
      case measure => rw [hrg3.left_eq, hrg.left_eq]; exact hlt
theorem xvalues (mb : Option Nat) (w : World) : Calls Tryz.prog 64 #[.map mb] w fun e w' => e = .returned (.func (.func 81) #[] #[.pointer (some ⟨w.heap.size, 0, none⟩)]) ∧ w' = w.alloc (.cells #[.map mb] 73) := by
  go_enter Tryz.func64, Tryz.ntmps64
  go_wp2_with fail
  go_ret
  exact ⟨rfl, rfl⟩
def CoP (f : Int → Int) (S : List Int) (B T : Nat) (w : World) (e : Ending) (w' : World) : Prop := ∃ (v : Value) (K : List Int), e = .returned v ∧ K.Nodup ∧ (∀ a, f a ≠ 0 → a ∈ K) ∧ K.length ≤ S.length ∧ w'.ownsRow B T 1 v K.length ((K.map f).map encZ) ∧ Below w.heap.size w w'
theorem xcollect {w : World} {m : Nat} {f : Int → Int} (h : Ti w m f) {S : List Int} (hS : ∀ b, f b ≠ 0 → b ∈ S) (hl : S.length ≤ 1000000) :
    Calls Tryz.prog 46 #[.func (.func 81) #[] #[.pointer (some ⟨w.heap.size, 0, none⟩)]] (w.alloc (.cells #[.map (some m)] 73)) (CoP f S (w.heap.size + 1) 3 (w.alloc (.cells #[.map (some m)] 73))) := by
  obtain ⟨L, es, h1, h2, h3, h4, h5, h6⟩ := h.own
  have hp : (intKeys (DataW.map es : Dt)).Perm (L.map Prod.fst) := by
    show (es.map fun p => Go.intOf p.1).Perm _
    have := h2.map (fun p => Go.intOf p.1)
    rw [List.map_map] at this
    exact this
  have hsz : Maps.size (DataW.map es : Dt) = L.length := by rw [Maps.size_eq, h2.length_eq, List.length_map]
  have hL : L.length ≤ S.length := by
    have := nd_len h4 (L := S) (fun x hx => by
      obtain ⟨p, hp, rfl⟩ := List.mem_map.1 hx
      refine hS _ ?_
      rw [← (h5 p hp).1]
      exact (h5 p hp).2)
    rwa [List.length_map] at this
  have hR : ∀ a v y ps, Rv v = some (y, ps) → (∀ zd, (DataW.map es : Dt).atKey (.int .i64 a) zd = y) → v = .int .i64 (f a) := fun a v y ps hv hat => by
    unfold Rv at hv
    simp only [Option.some.injEq, Prod.mk.injEq] at hv
    obtain ⟨rfl, rfl⟩ := hv
    obtain ⟨q, hq, hs⟩ := List.any_eq_true.1 (show (es.any fun p => p.1.sameKey (.int .i64 a)) = true from Maps.has_true_of_atKey hat)
    have e1 := hat (.held (.int .i64 0))
    rw [show (Lit.int .i64 a) = KI.kl a from rfl, at_get OI h2 h4 a] at e1
    simp only [DataW.held.injEq] at e1
    obtain ⟨p, hp1, rfl⟩ := List.mem_map.1 (h2.mem_iff.1 hq)
    have ep : p.1 = a := by
      have := WideAt.sameKey_eq hs
      exact OI.inj _ _ this
    rw [← e1, ← ep, gt_mem h4 hp1, (h5 p hp1).1]
  have hseq : SeqGives Fence.wide 3 Tryz.prog 81 #[.pointer (some ⟨w.heap.size, 0, none⟩)] encZ (fun ss => ∃ K : List Int, K.Perm (intKeys (DataW.map es : Dt)) ∧ ss = K.map f) (Maps.size (DataW.map es : Dt)) (w.alloc (.cells #[.map (some m)] 73)) := fun l J W hW hJ hY h0 => by
    have o1 := om_alloc h1 (.cells #[.map (some m)] 73)
    have hown' : W.ownsMap Tryz.prog 3 Rv m L.length (.map es) := by
      have hbl := o1.lt
      obtain ⟨es', clock, hb, Ft, hs, hD⟩ := o1
      exact ⟨es', clock, (hW.block m hbl).trans hb, Ft, hs, hD⟩
    exact vals_in f 3 (by omega) l w.heap.size m L.length _ hR J hY W hJ ((hW.cell (p := ⟨w.heap.size, 0, none⟩) (by simp)).trans (by simp)) hown' h0
  have cS := AnyZI.collect_in (ρ := Tryz.sortedI_ren) { Tryz.sortedI with } Fence.wide 5 trivial trivial rfl (by omega) 81 #[.pointer (some ⟨w.heap.size, 0, none⟩)] trivial (enters_of Tryz.func81 (by kernel_rfl) rfl) _ _ (by rw [hsz]; unfold maxLen; omega) (by rw [hsz]; omega) _ hseq
  refine ((callsIn_wide (n := 5)).1 cS).mono fun e w' hh => ?_
  obtain ⟨v, ss, rfl, ⟨K, hK, rfl⟩, hr, -, hb⟩ := hh
  have hKL := hK.trans hp
  refine ⟨v, K, rfl, hKL.nodup_iff.2 h4, fun a ha => hKL.mem_iff.2 (h6 a ha), by rw [hKL.length_eq, List.length_map]; exact hL, ?_, hb⟩
  have : (w.alloc (.cells #[.map (some m)] 73)).heap.size = w.heap.size + 1 := by simp
  rw [← this]
  rw [List.length_map] at hr
  exact hr
end Go.Proofs.YtdfadcbchiogjaaGreat
