/- layer 14: At and Get of the program -/
import Derived.Test.YtmjaijpikbdfkaaIE
import Derived.Test.YtmjaijpikbdfkaaJB
import Derived.WalkKit
import Derived.ProofKit
import Derived.Handy
import Derived.WalkLawsBesides
import Derived.WalkSpells
import Derived.BigQuiet
import Derived.BigCall
import Derived.Deep.QuietTactic
import Derived.Deep.Light
import Derived.Deep.OwnRows
import Derived.Laws.AppendOwnNone
import Derived.Laws.Strings3
import Derived.Laws.RangeAny
import Derived.Deep.RegionWith
import Derived.Lib.BitFns
import Derived.Lib.Walk
import Derived.Lib.Strings
import Derived.Lib.OthersKept
import Derived.Deep.CutBlock
import Derived.Deep.DeepCutAuto
import Derived.Deep.LoopGhost
import Derived.Deep.RegionHeld3
import Derived.Lib.SmallJoins
import Derived.Maps.AppendAt
import Derived.Laws.IdiomStrings
import Derived.Lib.AppendZeros
import Derived.Deep.WholeRow
import Derived.Laws.BitsAllLaws
import Derived.Lib.ConvBytes
import Derived.Deep.RegionLaw
import Derived.Maps.OwnSet
import Derived.Maps.OwnOps
import Derived.Maps.RangeWalk
import Derived.Maps.Ext
import Derived.DeepKeys4
import Derived.Laws.StructEq
import Derived.Deep.MidRow
import Derived.Lib.Bytealg
import Derived.Lib.Overlaps
import Derived.Lib.AppendZerosOnto
import Derived.Laws.MakeOwn
import Derived.Deep.Upon
import Derived.Sort.OwnSortedInts
namespace Go.Proofs.Ytmjaijpikbdfkaa
open Go.RowKit
set_option linter.unusedVariables false
set_option linter.unusedSimpArgs false
set_option maxRecDepth 20000
def AtX (o : Option Bk) (w : World) (e : Ending) (w' : World) : Prop := ∃ y : Bm, e = .returned (.tuple #[.agg (bcs y).toArray, .bool o.isSome]) ∧ Hid (y.b = o.getD Bk.z ∧ Hx (fun k => w.heap.size ≤ k) w' y ∧ Below w.heap.size w w')
theorem zm_hx (F : Nat → Prop) (w : World) : Hx F w Zm := ⟨⟨World.ownsRow_nil _ _ _ _, fun g hg => by cases hg⟩, ⟨World.ownsRow_nil _ _ _ _, fun g hg => by cases hg⟩⟩
theorem Hx.setR {F G : Nat → Prop} {w : World} {y : Bm} {q : Nat} {cs : Array Value} (h : Hx F w y) (hq : ¬ F q) (hG : ∀ k, F k → G k) : Hx G (w.setRow q cs) y :=
  (h.ag ⟨by simp [World.setRow], fun k hk _ => setRow_other w q k cs (fun e => hq (e ▸ hk))⟩).mono hG
theorem atL_no {r : List Bk} {id ver : Int} (h : ver < 1 ∨ ((of r id).length : Int) < ver) : atL r id ver = none := by
  unfold atL
  rw [if_pos h]
theorem atL_yes {r : List Bk} {id ver : Int} {j : Nat} {xs : List Bm} (hx : xs.map (·.b) = of r id) (hj : j < xs.length) (h : ver - 1 = (j : Int)) : atL r id ver = some xs[j].b := by
  have hl : (of r id).length = xs.length := by rw [← hx, List.length_map]
  unfold atL
  rw [if_neg (by omega), h, Int.toNat_natCast, ← hx, List.getElem?_map, List.getElem?_eq_getElem hj]
  rfl
set_option maxHeartbeats 8000000 in
theorem xat {F : Nat → Prop} {w : World} {p m : Nat} {L : List En} {r : List Bk} (h : Bo F w p m L) (g : Gr L r) (id ver : Int) (hid : Wf id) : Calls Try.prog 22 #[.pointer (some ⟨p, 0, none⟩), .int .i64 id, .int .i64 ver] w (AtX (atL r id ver) w) := by
  obtain ⟨xs, hh⟩ := h.has id
  obtain ⟨hown, hxx⟩ := hh.own h
  have hxm : xs.map (·.b) = of r id := g.rl.has hh
  obtain ⟨a, cap, hv, _, hrw⟩ := own_rw bcs_len hown.1 rfl
  have HOF : Hid (Calls Try.prog 43 #[.pointer (some ⟨p, 0, none⟩), .int .i64 id] (w.alloc (.cells #[.int .i64 0, .int .i64 0, .string ⟨#[]⟩, .int .i64 0, .int .i64 0, .int .i64 0, .slice none 0 0, .int .i64 0, .int .i64 0, .slice none 0 0] 25)) fun e w' => e = .returned (.slice a xs.length cap) ∧ (w.alloc (.cells #[.int .i64 0, .int .i64 0, .string ⟨#[]⟩, .int .i64 0, .int .i64 0, .int .i64 0, .slice none 0 0, .int .i64 0, .int .i64 0, .slice none 0 0] 25)) = w') := by unfold Hid; rw [← hv]; exact xof (h.below (below_a w _)) id hid
  have hxl : xs.length ≤ 1000000 := by
    have h1 := congrArg List.length hxm
    rw [List.length_map] at h1
    have h2 := of_len r id
    have h3 := g.n
    omega
  have hol : (of r id).length = xs.length := by rw [← hxm, List.length_map]
  have HX0 : Hid (Bx (w.alloc (.cells #[.int .i64 0, .int .i64 0, .string ⟨#[]⟩, .int .i64 0, .int .i64 0, .int .i64 0, .slice none 0 0, .int .i64 0, .int .i64 0, .slice none 0 0] 25)) w.heap.size #[.int .i64 0, .int .i64 0, .string ⟨#[]⟩, .int .i64 0, .int .i64 0, .int .i64 0, .slice none 0 0, .int .i64 0, .int .i64 0, .slice none 0 0] 25) := Bx.new w _ _
  have HB0 : Hid (Below w.heap.size w (w.alloc (.cells #[.int .i64 0, .int .i64 0, .string ⟨#[]⟩, .int .i64 0, .int .i64 0, .int .i64 0, .slice none 0 0, .int .i64 0, .int .i64 0, .slice none 0 0] 25))) := below_a w _
  have HAP : Hid (∀ x ∈ xs, ∀ W, Below w.heap.size w W → Calls Try.prog 44 #[.agg (bcs x).toArray] W (ApP x W)) := fun x hx W hW => by
    have hs := sm_of (g.e x.b (of_mem (by rw [← hxm]; exact List.mem_map.2 ⟨x, hx, rfl⟩)).1)
    exact xapart x hs.1 W ((hxx x hx).ha.on hW (Nat.le_refl _)) hs.2.1 hs.2.2
  have HPN : Hid (ver < 1 ∨ (xs.length : Int) < ver → atL r id ver = none) := fun h => atL_no (by rw [hol]; exact h)
  have HPY : Hid (∀ j (h : j < xs.length), ver - 1 = (j : Int) → atL r id ver = some xs[j].b) := fun j h e => atL_yes hxm h e
  have HRW : Hid (Rw 10 bcs w a xs) := hrw
  generalize hp : atL r id ver = o at *
  clear hp h g hh hown hxx hxm hv hrw hol hid
  go_enter Try.func22, Try.ntmps22
  go_upto_region 1 with fail
  generalize (w.alloc (.cells #[.int .i64 0, .int .i64 0, .string ⟨#[]⟩, .int .i64 0, .int .i64 0, .int .i64 0, .slice none 0 0, .int .i64 0, .int .i64 0, .slice none 0 0] 25)) = w1 at *
  go_upto_region 2 with (go_at_call 43; refine HOF.out.mono ?_; clear HOF; rintro e w2 ⟨rfl, rfl⟩)
  have HSTZ : Hid ((Instr.storeAt 25 (.pointer (some ⟨w.heap.size, 0, none⟩)) (.agg #[.int .i64 0, .int .i64 0, .string ⟨#[]⟩, .int .i64 0, .int .i64 0, .int .i64 0, .slice none 0 0, .int .i64 0, .int .i64 0, .slice none 0 0])).run Try.prog w1 = .ok () (w1.setRow w.heap.size #[.int .i64 0, .int .i64 0, .string ⟨#[]⟩, .int .i64 0, .int .i64 0, .int .i64 0, .slice none 0 0, .int .i64 0, .int .i64 0, .slice none 0 0])) := box_store HX0.out rfl Zm
  have HFZ : Hid (Bx (w1.setRow w.heap.size #[.int .i64 0, .int .i64 0, .string ⟨#[]⟩, .int .i64 0, .int .i64 0, .int .i64 0, .slice none 0 0, .int .i64 0, .int .i64 0, .slice none 0 0]) w.heap.size #[.int .i64 0, .int .i64 0, .string ⟨#[]⟩, .int .i64 0, .int .i64 0, .int .i64 0, .slice none 0 0, .int .i64 0, .int .i64 0, .slice none 0 0] 25 ∧ Below w.heap.size w (w1.setRow w.heap.size #[.int .i64 0, .int .i64 0, .string ⟨#[]⟩, .int .i64 0, .int .i64 0, .int .i64 0, .slice none 0 0, .int .i64 0, .int .i64 0, .slice none 0 0])) := ⟨HX0.out.setR, below_setR HB0.out (Nat.le_refl _)⟩
  by_cases h1 : ver < 1
  · have ho := HPN.out (.inl h1)
    clear HPN HPY HRW HAP
    subst ho
    go_wp2_with (guard_target =~ wpList _ _ _ (⟨_, Op.store 25 _ _, _, _, _, _⟩ :: _) _ _; refine wl_store _ _ rfl 25 _ _ rfl _ _ rfl rfl HSTZ.out ?_; go_simp)
    refine bodyPost_ret (res_cell2 _ _ 6 25 7 _ _ _ _ rfl rfl rfl (box_load (y := Zm) HFZ.out.1)) rfl ?_
    exact ⟨Zm, rfl, rfl, zm_hx _ _, HFZ.out.2⟩
  by_cases h2 : (xs.length : Int) < ver
  · have ho := HPN.out (.inr h2)
    clear HPN HPY HRW HAP
    subst ho
    go_wp2_with (guard_target =~ wpList _ _ _ (⟨_, Op.store 25 _ _, _, _, _, _⟩ :: _) _ _; refine wl_store _ _ rfl 25 _ _ rfl _ _ rfl rfl HSTZ.out ?_; go_simp)
    refine bodyPost_ret (res_cell2 _ _ 6 25 7 _ _ _ _ rfl rfl rfl (box_load (y := Zm) HFZ.out.1)) rfl ?_
    exact ⟨Zm, rfl, rfl, zm_hx _ _, HFZ.out.2⟩
  obtain ⟨j, hje⟩ : ∃ j, j = (ver - 1).toNat := ⟨_, rfl⟩
  have hj : j < xs.length := by omega
  have hjz : ver - 1 = (j : Int) := by omega
  have ho := HPY.out j hj hjz
  have hjl : (j : Int) < (xs.length : Int) := by omega
  have hj0 : (0 : Int) ≤ j := by omega
  have hwj : IntKind.i64.wrap (j : Int) = j := by rw [IntKind.wrap_i64]; omega
  obtain ⟨blk, off, rfl, hld⟩ := HRW.out.load HB0.out hj
  have HLD : Hid ((Instr.loadAt 25 (.pointer (some ⟨blk, off + j * 10, none⟩))).run Try.prog w1 = .ok (.agg (bcs xs[j]).toArray) w1) := hld
  have HAX : Hid (Calls Try.prog 44 #[.agg (bcs xs[j]).toArray] w1 (ApP xs[j] w1)) := HAP.out _ (List.getElem_mem hj) w1 HB0.out
  clear HPN HPY HRW HAP HSTZ HFZ hje hld
  subst ho
  generalize xs[j] = x at *
  generalize (bcs x).toArray = Mx at *
  go_wp2_with (first | (guard_target =~ wpList _ _ _ (⟨_, Op.load 25 _, _, _, _, _⟩ :: _) _ _; refine wl_load _ rfl 25 _ rfl _ rfl _ HLD.out ?_; go_simp) | (go_at_call 44; refine HAX.out.mono ?_; clear HAX; rintro e w3 ⟨y, rfl, hy⟩; have HX3 : Hid (Bx w3 w.heap.size #[.int .i64 0, .int .i64 0, .string ⟨#[]⟩, .int .i64 0, .int .i64 0, .int .i64 0, .slice none 0 0, .int .i64 0, .int .i64 0, .slice none 0 0] 25) := HX0.out.keep hy.out.2.2; have HB3 : Hid (Below w.heap.size w w3) := HB0.out.trans (hy.out.2.2.mono HB0.out.size); have HST : Hid ((Instr.storeAt 25 (.pointer (some ⟨w.heap.size, 0, none⟩)) (.agg (bcs y).toArray)).run Try.prog w3 = .ok () (w3.setRow w.heap.size (bcs y).toArray)) := box_store HX3.out rfl y) | (guard_target =~ wpList _ _ _ (⟨_, Op.store 25 _ _, _, _, _, _⟩ :: _) _ _; refine wl_store _ _ rfl 25 _ _ rfl _ _ rfl rfl HST.out ?_; go_simp))
  refine bodyPost_ret (res_cell2 _ _ 6 25 7 _ _ _ _ rfl rfl rfl (box_load (HX3.out.setR (ds := (bcs y).toArray)))) rfl ?_
  exact ⟨y, rfl, hy.out.1, hy.out.2.1.setR (by have := HX0.out.lt; omega) (fun k hk => Nat.le_trans HB0.out.size hk), below_setR HB3.out (Nat.le_refl _)⟩
set_option maxHeartbeats 8000000 in
theorem xget {F : Nat → Prop} {w : World} {p m : Nat} {L : List En} {r : List Bk} (h : Bo F w p m L) (g : Gr L r) (id : Int) (hid : Wf id) : Calls Try.prog 20 #[.pointer (some ⟨p, 0, none⟩), .int .i64 id] w (AtX (atL r id (of r id).length) w) := by
  obtain ⟨xs, hh⟩ := h.has id
  obtain ⟨hown, hxx⟩ := hh.own h
  have hxm : xs.map (·.b) = of r id := g.rl.has hh
  obtain ⟨a, cap, hv, _, hrw⟩ := own_rw bcs_len hown.1 rfl
  have HOF : Hid (Calls Try.prog 43 #[.pointer (some ⟨p, 0, none⟩), .int .i64 id] (w.alloc (.cells #[.int .i64 0, .int .i64 0, .string ⟨#[]⟩, .int .i64 0, .int .i64 0, .int .i64 0, .slice none 0 0, .int .i64 0, .int .i64 0, .slice none 0 0] 25)) fun e w' => e = .returned (.slice a xs.length cap) ∧ (w.alloc (.cells #[.int .i64 0, .int .i64 0, .string ⟨#[]⟩, .int .i64 0, .int .i64 0, .int .i64 0, .slice none 0 0, .int .i64 0, .int .i64 0, .slice none 0 0] 25)) = w') := by unfold Hid; rw [← hv]; exact xof (h.below (below_a w _)) id hid
  have hol : (of r id).length = xs.length := by rw [← hxm, List.length_map]
  have HX0 : Hid (Bx (w.alloc (.cells #[.int .i64 0, .int .i64 0, .string ⟨#[]⟩, .int .i64 0, .int .i64 0, .int .i64 0, .slice none 0 0, .int .i64 0, .int .i64 0, .slice none 0 0] 25)) w.heap.size #[.int .i64 0, .int .i64 0, .string ⟨#[]⟩, .int .i64 0, .int .i64 0, .int .i64 0, .slice none 0 0, .int .i64 0, .int .i64 0, .slice none 0 0] 25) := Bx.new w _ _
  have HB0 : Hid (Below w.heap.size w (w.alloc (.cells #[.int .i64 0, .int .i64 0, .string ⟨#[]⟩, .int .i64 0, .int .i64 0, .int .i64 0, .slice none 0 0, .int .i64 0, .int .i64 0, .slice none 0 0] 25))) := below_a w _
  have HAT : Hid (Calls Try.prog 22 #[.pointer (some ⟨p, 0, none⟩), .int .i64 id, .int .i64 xs.length] (w.alloc (.cells #[.int .i64 0, .int .i64 0, .string ⟨#[]⟩, .int .i64 0, .int .i64 0, .int .i64 0, .slice none 0 0, .int .i64 0, .int .i64 0, .slice none 0 0] 25)) (AtX (atL r id xs.length) (w.alloc (.cells #[.int .i64 0, .int .i64 0, .string ⟨#[]⟩, .int .i64 0, .int .i64 0, .int .i64 0, .slice none 0 0, .int .i64 0, .int .i64 0, .slice none 0 0] 25)))) := xat (h.below (below_a w _)) g id _ hid
  rw [hol]
  generalize atL r id xs.length = o at *
  clear h g hh hown hxx hxm hv hrw hol hid
  go_enter Try.func20, Try.ntmps20
  go_upto_region 1 with fail
  generalize (w.alloc (.cells #[.int .i64 0, .int .i64 0, .string ⟨#[]⟩, .int .i64 0, .int .i64 0, .int .i64 0, .slice none 0 0, .int .i64 0, .int .i64 0, .slice none 0 0] 25)) = w1 at *
  go_wp2_with (first | (go_at_call 43; refine HOF.out.mono ?_; clear HOF; rintro e w2 ⟨rfl, rfl⟩) | (go_at_call 22; refine HAT.out.mono ?_; clear HAT; rintro e w3 ⟨y, rfl, hy⟩; have HX3 : Hid (Bx w3 w.heap.size #[.int .i64 0, .int .i64 0, .string ⟨#[]⟩, .int .i64 0, .int .i64 0, .int .i64 0, .slice none 0 0, .int .i64 0, .int .i64 0, .slice none 0 0] 25) := HX0.out.keep hy.out.2.2; have HB3 : Hid (Below w.heap.size w w3) := HB0.out.trans (hy.out.2.2.mono HB0.out.size); have HST : Hid ((Instr.storeAt 25 (.pointer (some ⟨w.heap.size, 0, none⟩)) (.agg (bcs y).toArray)).run Try.prog w3 = .ok () (w3.setRow w.heap.size (bcs y).toArray)) := box_store HX3.out rfl y) | (guard_target =~ wpList _ _ _ (⟨_, Op.store 25 _ _, _, _, _, _⟩ :: _) _ _; refine wl_store _ _ rfl 25 _ _ rfl _ _ rfl rfl HST.out ?_; go_simp))
  refine bodyPost_ret (res_cell2 _ _ 4 25 5 _ _ _ _ rfl rfl rfl (box_load (HX3.out.setR (ds := (bcs y).toArray)))) rfl ?_
  exact ⟨y, rfl, hy.out.1, hy.out.2.1.setR (by have := HX0.out.lt; omega) (fun k hk => Nat.le_trans HB0.out.size hk), below_setR HB3.out (Nat.le_refl _)⟩
end Go.Proofs.Ytmjaijpikbdfkaa
