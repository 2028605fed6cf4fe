/- layer 11: all accounts, in order -/
import Derived.Test.YtbfnfebmmhhegaaP
import Derived.Test.YtbfnfebmmhhegaaShelf2
import Derived.WalkKit
import Derived.ProofKit
import Derived.Handy
import Derived.WalkLawsBesides
import Derived.WalkSpells
import Derived.BigQuiet
import Derived.BigCall
import Derived.Deep.QuietTactic
import Derived.Deep.Light
import Derived.Deep.OwnRows
import Derived.Laws.AppendOwnNone
import Derived.Laws.Strings3
import Derived.Laws.RangeAny
import Derived.Deep.RegionWith
import Derived.Lib.BitFns
import Derived.Lib.Walk
import Derived.Lib.Strings
import Derived.Lib.OthersKept
import Derived.Deep.CutBlock
import Derived.Deep.DeepCutAuto
import Derived.Deep.LoopGhost
import Derived.Deep.RegionHeld3
import Derived.Lib.SmallJoins
import Derived.Maps.AppendAt
import Derived.Laws.IdiomStrings
import Derived.Lib.AppendZeros
import Derived.Deep.WholeRow
import Derived.Laws.BitsAllLaws
import Derived.Lib.ConvBytes
import Derived.Deep.RegionLaw
import Derived.Maps.OwnSet
import Derived.Maps.OwnOps
import Derived.Maps.RangeWalk
import Derived.Maps.Ext
import Derived.DeepKeys4
import Derived.Laws.StructEq
import Derived.Shelf.SlSortCmp.NoneTotal
namespace Go.Proofs.Ytbfnfebmmhhegaa
open Go.RowKit
set_option linter.unusedVariables false
set_option linter.unusedSimpArgs false
open Go.Sort (grow SWO PermIn SortedIn HoldsK putRowK ahead)
def bcs (p : Num.Bal) : List Value := [.int .i64 p.1.1, .int .i64 p.1.2.1, .string (S p.1.2.2), .int .i64 p.2]
def cfB (x y : Num.Bal) : Int := ordI x.1.1 x.1.2.1 x.1.2.2 y.1.1 y.1.2.1 y.1.2.2
theorem cfB_lt (x y : Num.Bal) : cfB x y < 0 ↔ Num.ahead x.1 y.1 := by
  unfold cfB ordI or3 cmpS Lib.compareInt
  by_cases h1 : x.1.2.2 < y.1.2.2
  · simp only [if_pos h1]
    exact ⟨fun _ => .inl h1, fun _ => by simp⟩
  · by_cases h2 : y.1.2.2 < x.1.2.2
    · simp only [if_neg h1, if_pos h2]
      constructor
      · intro h; simp at h
      · rintro (h | ⟨h, _⟩)
        · exact absurd h h1
        · rw [h] at h2; exact absurd h2 (List.lt_irrefl _)
    · have e := not_lt_eq h1 h2
      simp only [if_neg h1, if_neg h2]
      have k : Num.ahead x.1 y.1 ↔ (x.1.1 < y.1.1 ∨ (x.1.1 = y.1.1 ∧ x.1.2.1 < y.1.2.1)) := by
        constructor
        · rintro (h | ⟨_, h⟩)
          · exact absurd h h1
          · exact h
        · intro h; exact .inr ⟨e, h⟩
      rw [k]
      split
      · rename_i h; exact absurd rfl h
      · by_cases h3 : x.1.1 < y.1.1
        · simp [h3]
        · by_cases h4 : y.1.1 < x.1.1
          · simp [h3, h4]; omega
          · by_cases h5 : x.1.2.1 < y.1.2.1
            · simp [h3, h4, h5]; omega
            · by_cases h6 : y.1.2.1 < x.1.2.1 <;> simp [h3, h4, h5, h6] <;> omega
theorem ltB (x y : Num.Bal) : ltOf cfB x y = Num.aheadB x.1 y.1 := by
  unfold ltOf Num.aheadB
  rw [decide_eq_decide]
  exact cfB_lt x y
theorem swoB : SWO (ltOf cfB) where
  irrefl x := by rw [ltB]; exact Num.aheadB_no.2 (Num.ahead_irrefl _)
  trans x y z h1 h2 := by
    rw [ltB] at *
    exact Num.aheadB_iff.2 (Num.ahead_trans (Num.aheadB_iff.1 h1) (Num.aheadB_iff.1 h2))
  ntrans x y z h1 h2 := by
    rw [ltB] at *
    have a1 := Num.aheadB_no.1 h1
    have a2 := Num.aheadB_no.1 h2
    refine Num.aheadB_no.2 (fun h => ?_)
    by_cases e : x.1 = y.1
    · rw [e] at h; exact a2 h
    · rcases Num.ahead_tri e with k | k
      · exact a1 k
      · exact a2 (Num.ahead_trans k h)
set_option maxRecDepth 20000 in
theorem xclos (x y : Num.Bal) (w : World) : Calls Try.prog 75 #[.agg (bcs x).toArray, .agg (bcs y).toArray] w fun e w' => e = .returned (.int .i64 (cfB x y)) ∧ Gd w w' := by
  obtain ⟨⟨o, b, t⟩, n⟩ := x
  obtain ⟨⟨o2, b2, t2⟩, n2⟩ := y
  have e1 : (bcs ((o, b, t), n)).toArray = #[.int .i64 o, .int .i64 b, .string (S t), .int .i64 n] := rfl
  have e2 : (bcs ((o2, b2, t2), n2)).toArray = #[.int .i64 o2, .int .i64 b2, .string (S t2), .int .i64 n2] := rfl
  rw [e1, e2]
  have HC : Hid (∀ w, Calls Try.prog 68 #[.agg #[.int .i64 o, .int .i64 b, .string (S t)], .agg #[.int .i64 o2, .int .i64 b2, .string (S t2)]] w fun e w' => e = .returned (.int .i64 (cfB ((o, b, t), n) ((o2, b2, t2), n2))) ∧ Gd w w') := fun w => by
    have := xorder o b (S t) o2 b2 (S t2) w
    rw [S_toList, S_toList] at this
    exact this
  have HG : Hid (∀ x y, Gd w ((w.alloc x).alloc y)) := fun x y => (Gd.alloc w x).trans (Gd.alloc _ y)
  generalize cfB ((o, b, t), n) ((o2, b2, t2), n2) = R at *
  generalize S t = s at *
  generalize S t2 = s2 at *
  clear e1 e2
  go_enter Try.func75, Try.ntmps75
  go_wp2_with (go_at_call 68; refine (HC.out _).mono ?_; rintro e w2 ⟨rfl, hg⟩)
  go_ret
  exact ⟨rfl, (HG.out _ _).trans hg⟩
theorem clays (blk off size : Nat) (w : World) : Go.Proofs.CmpLays Try.prog 75 #[] bcs 4 cfB blk off size w := fun _ _ _ _ x y => (xclos x y _).mono fun _ _ h => h
/-- balances in a row, as they are read -/
def Bs (w : World) (a : Option Addr) (L : List Num.Bal) : Prop := 0 < L.length → ∃ blk off, a = some ⟨blk, off, none⟩ ∧ blk < w.heap.size ∧ ∀ i (h : i < L.length), ∀ k, k < 4 → w.cell? ⟨blk, off + i * 4 + k, none⟩ = (bcs L[i])[k]?
theorem Bs.below {w w' : World} {a : Option Addr} {L : List Num.Bal} (h : Bs w a L) (hb : Below w.heap.size w w') : Bs w' a L := by
  intro h0
  obtain ⟨blk, off, h1, h2, h3⟩ := h h0
  exact ⟨blk, off, h1, Nat.lt_of_lt_of_le h2 hb.size, fun i hi k hk => (hb.cell (p := ⟨blk, off + i * 4 + k, none⟩) h2).trans (h3 i hi k hk)⟩
theorem perm_srt {L : List Num.Bal} {d : Array Num.Bal} (hs : Num.Srt L) (hp : d.toList.Perm L) (ho : SortedIn (ltOf cfB) 0 d.size d) : d.toList = L := by
  refine Num.srt_ext ?_ hs (fun p => hp.mem_iff)
  rw [Num.Srt, List.pairwise_iff_getElem]
  intro i j hi hj hij
  have h1 := ho i j (Nat.zero_le _) hij (by simpa using hj)
  rw [ltB] at h1
  have e1 : d[i]! = d.toList[i] := by rw [getElem!_pos d i (by simpa using hi)]; simp
  have e2 : d[j]! = d.toList[j] := by rw [getElem!_pos d j (by simpa using hj)]; simp
  rw [e1, e2] at h1
  have hne : d.toList[i].1 ≠ d.toList[j].1 := by
    intro e
    have hnd : d.toList.Nodup := hp.nodup_iff.2 (Num.srt_nodup hs)
    have := Num.srt_key hs (hp.mem_iff.1 (List.getElem_mem hi)) (hp.mem_iff.1 (List.getElem_mem hj)) e
    have hij2 := (List.nodup_iff_pairwise_ne.1 hnd)
    rw [List.pairwise_iff_getElem] at hij2
    exact hij2 i j hi hj hij this
  rcases Num.ahead_tri hne with k | k
  · exact k
  · exact absurd k (Num.aheadB_no.1 h1)
theorem info46 : (Try.prog.info? 71).map (fun i => (i.zero, i.size, i.bytes)) = some (some (.agg #[.int .i64 0, .int .i64 0, .string ⟨#[]⟩, .int .i64 0]), 4, 40) := by kernel_rfl
def bcells (C : List Num.Bal) : List Value := (C.map bcs).flatten
theorem bcs_len (p : Num.Bal) : (bcs p).length = 4 := rfl
theorem sortW_block (w : World) (g n : Nat) (d : Array Num.Bal) (os : Array Obj) {k : Nat} (hk : k < w.heap.size) (hg : g ≠ k) : (Go.Proofs.sortWorldK bcs 4 w g 0 n d os).heap[k]? = w.heap[k]? := by
  unfold Go.Proofs.sortWorldK grow putRowK Go.Sort.putRow Go.Sort.mapBlock Go.Sort.ahead
  simp only
  rw [Array.getElem?_append_left (by simpa using hk), Array.getElem?_modify, if_neg hg]
theorem sortW_size (w : World) (g n : Nat) (d : Array Num.Bal) (os : Array Obj) : w.heap.size ≤ (Go.Proofs.sortWorldK bcs 4 w g 0 n d os).heap.size := by
  unfold Go.Proofs.sortWorldK grow putRowK Go.Sort.putRow Go.Sort.mapBlock Go.Sort.ahead
  simp
theorem below_sortW {B : Nat} {w0 w : World} {g n : Nat} {d : Array Num.Bal} {os : Array Obj} (h : Below B w0 w) (hB : B ≤ w.heap.size) (hg : B ≤ g) : Below B w0 (Go.Proofs.sortWorldK bcs 4 w g 0 n d os) :=
  ⟨h.os, h.tape, h.output, Nat.le_trans h.size (sortW_size w g n d os), fun k hk => (sortW_block w g n d os (by omega) (by omega)).trans (h.block k hk)⟩
theorem holdsB {w : World} {g : Nat} {C : List Num.Bal} (hc : ∀ i u, (bcells C)[i]? = some u → w.cell? ⟨g, i, none⟩ = some u) (hf : ∀ i, w.frozen? ⟨g, i, none⟩ = false) : HoldsK bcs 4 w g 0 C.toArray := by
  intro j hj
  rw [Go.Sort.size_flatK] at hj
  have hj' : j < C.length * 4 := by simpa using hj
  refine ⟨?_, hf _⟩
  have h1 : j / 4 < C.length := by omega
  have h2 := flat_at bcs 4 bcs_len C (j / 4) h1 (j % 4) (Nat.mod_lt _ (by omega))
  rw [show j / 4 * 4 + j % 4 = j by omega] at h2
  have h3 : j % 4 < (bcs C[j / 4]).length := by rw [bcs_len]; exact Nat.mod_lt _ (by omega)
  have h4 := hc j ((bcs C[j / 4])[j % 4]) (by unfold bcells; rw [h2, List.getElem?_eq_getElem h3])
  rw [Nat.zero_add, h4, Go.Sort.get_flatK _ _ _ _ hj]
  rw [show (C.toArray)[j / 4]! = C[j / 4] by rw [getElem!_pos _ _ (by simpa using h1)]; simp]
  rw [getElem!_pos (bcs C[j / 4]) (j % 4) h3]
  rfl
theorem sortW_cells {w : World} {g n : Nat} {C : List Num.Bal} {d : Array Num.Bal} {os : Array Obj} (hH : HoldsK bcs 4 w g 0 C.toArray) (hg : g < w.heap.size) (hd : d.size = C.length) {i : Nat} (hi : i < d.toList.length) {k : Nat} (hk : k < 4) : (Go.Proofs.sortWorldK bcs 4 w g 0 n d os).cell? ⟨g, 0 + i * 4 + k, none⟩ = (bcs d.toList[i])[k]? := by
  have h1 : HoldsK bcs 4 (putRowK bcs 4 (Go.Sort.ahead w n) g 0 d) g 0 d := Go.Sort.holdsK_putRowK bcs 4 (Go.Sort.ahead w n) g 0 C.toArray d (Go.Sort.holdsK_ahead bcs 4 w n g 0 _ hH) (by simpa using hd)
  have h2 := Go.Sort.holdsK_grow bcs 4 _ os g 0 d (by unfold putRowK Go.Sort.putRow Go.Sort.mapBlock Go.Sort.ahead; simpa using hg) h1
  have h3 := (h2.cell (i := i) (c := k) (by simpa using hi) hk).1
  have e : Go.Proofs.sortWorldK bcs 4 w g 0 n d os = grow (putRowK bcs 4 (Go.Sort.ahead w n) g 0 d) os := rfl
  rw [e, h3]
  rw [show d[i]! = d.toList[i] by rw [getElem!_pos d i (by simpa using hi)]; simp]
  rw [getElem!_pos _ k (by rw [bcs_len]; exact hk), List.getElem?_eq_getElem]
def AllP (L : List Num.Bal) (w : World) (e : Ending) (w' : World) : Prop := ∃ a cap, e = .returned (.slice a L.length cap) ∧ L.length ≤ cap ∧ Hid (Bs w' a L ∧ Below w.heap.size w w')
end Go.Proofs.Ytbfnfebmmhhegaa
