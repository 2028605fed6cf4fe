/- layer 12: nobody's books -/
import Derived.Test.YtbfnfebmmhhegaaO
import Derived.Test.YtbfnfebmmhhegaaTA
import Derived.Test.YtbfnfebmmhhegaaCG
import Derived.Test.YtbfnfebmmhhegaaCP
import Derived.WalkKit
import Derived.ProofKit
import Derived.Handy
import Derived.WalkLawsBesides
import Derived.WalkSpells
import Derived.BigQuiet
import Derived.BigCall
import Derived.Deep.QuietTactic
import Derived.Deep.Light
import Derived.Deep.OwnRows
import Derived.Laws.AppendOwnNone
import Derived.Laws.Strings3
import Derived.Laws.RangeAny
import Derived.Deep.RegionWith
import Derived.Lib.BitFns
import Derived.Lib.Walk
import Derived.Lib.Strings
import Derived.Lib.OthersKept
import Derived.Deep.CutBlock
import Derived.Deep.DeepCutAuto
import Derived.Deep.LoopGhost
import Derived.Deep.RegionHeld3
import Derived.Lib.SmallJoins
import Derived.Maps.AppendAt
import Derived.Laws.IdiomStrings
import Derived.Lib.AppendZeros
import Derived.Deep.WholeRow
import Derived.Laws.BitsAllLaws
import Derived.Lib.ConvBytes
import Derived.Deep.RegionLaw
import Derived.Maps.OwnSet
import Derived.Maps.OwnOps
import Derived.Maps.RangeWalk
import Derived.Maps.Ext
import Derived.DeepKeys4
import Derived.Laws.StructEq
import Derived.Shelf.SlSortCmp.NoneTotal
import Derived.Deep.MidRow
import Derived.Laws.MakeOwn
import Derived.Sort.OwnSorted
import Derived.Lib.SlicesCompact
import Derived.Lib.RowBridge
namespace Go.Proofs.Ytbfnfebmmhhegaa
open Go.RowKit
set_option linter.unusedVariables false
set_option linter.unusedSimpArgs false
set_option maxRecDepth 20000
def KpC (p : Value) (w : World) : Prop := Calls Try.prog 41 #[p] w fun e w' => e = .returned (.pointer none) ∧ w = w'
theorem kept_nil (w : World) : KpC (.pointer none) w := by
  unfold KpC
  go_enter Try.func41, Try.ntmps41
  go_wp2
  go_ret
  exact ⟨rfl, rfl⟩
theorem kept_zero (c : Nat) (w : World) (h : Bx w c #[.pointer none] 78) : KpC (.pointer (some ⟨c, 0, none⟩)) w := by
  have c0 : w.cell? ⟨c, 0, none⟩ = some (.pointer none) := h.cell 0
  clear h
  unfold KpC
  go_enter Try.func41, Try.ntmps41
  go_wp2
  go_ret
  exact ⟨rfl, rfl⟩
theorem nMove (p : Value) (v : Value) (w : World) (h : KpC p w) : Calls Try.prog 27 #[p, v] w fun e w' => e = .returned (.tuple #[.int .i64 0, .int .i64 3]) ∧ w = w' := by
  have HC : Hid (Calls Try.prog 41 #[p] w fun e w' => e = .returned (.pointer none) ∧ w = w') := h
  clear h
  go_enter Try.func27, Try.ntmps27
  go_wp2_with (go_at_call 41; refine HC.out.mono ?_; rintro e w1 ⟨rfl, rfl⟩)
  go_returns
  exact ⟨rfl, rfl⟩
theorem nBring (p : Value) (m : Int) (s : ByteArray) (n : Int) (w : World) (h : KpC p w) : Calls Try.prog 26 #[p, .int .i64 m, .string s, .int .i64 n] w fun e w' => e = .returned (.int .i64 3) ∧ w = w' := by
  have HC : Hid (Calls Try.prog 41 #[p] w fun e w' => e = .returned (.pointer none) ∧ w = w') := h
  clear h
  go_enter Try.func26, Try.ntmps26
  go_wp2_with (go_at_call 41; refine HC.out.mono ?_; rintro e w1 ⟨rfl, rfl⟩)
  go_ret
  exact ⟨rfl, rfl⟩
theorem nCThings (p : Value) (w : World) (h : KpC p w) : Calls Try.prog 22 #[p] w fun e w' => e = .returned (.slice none 0 0) ∧ w = w' := by
  have HC : Hid (Calls Try.prog 41 #[p] w fun e w' => e = .returned (.pointer none) ∧ w = w') := h
  have HD : Hid (Calls Try.prog 45 #[.pointer none] w fun e w' => e = .returned (.slice none 0 0) ∧ w = w') := nThings (.pointer none) w (lack_nil w)
  clear h
  go_enter Try.func22, Try.ntmps22
  go_wp2_with (first | (go_at_call 41; refine HC.out.mono ?_; rintro e w1 ⟨rfl, rfl⟩) | (go_at_call 45; refine HD.out.mono ?_; rintro e w1 ⟨rfl, rfl⟩))
  go_ret
  exact ⟨rfl, rfl⟩
theorem nCOut (p : Value) (s : ByteArray) (w : World) (h : KpC p w) : Calls Try.prog 24 #[p, .string s] w fun e w' => e = .returned (.int .i64 0) ∧ w = w' := by
  have HC : Hid (Calls Try.prog 41 #[p] w fun e w' => e = .returned (.pointer none) ∧ w = w') := h
  have HD : Hid (Calls Try.prog 46 #[.pointer none, .string s] w fun e w' => e = .returned (.int .i64 0) ∧ w = w') := nOut (.pointer none) s w (lack_nil w)
  clear h
  go_enter Try.func24, Try.ntmps24
  go_wp2_with (first | (go_at_call 41; refine HC.out.mono ?_; rintro e w1 ⟨rfl, rfl⟩) | (go_at_call 46; refine HD.out.mono ?_; rintro e w1 ⟨rfl, rfl⟩))
  go_ret
  exact ⟨rfl, rfl⟩
theorem nCAll (p : Value) (w : World) (h : KpC p w) : Calls Try.prog 34 #[p] w fun e w' => e = .returned (.slice none 0 0) ∧ w = w' := by
  have HC : Hid (Calls Try.prog 41 #[p] w fun e w' => e = .returned (.pointer none) ∧ w = w') := h
  have HD : Hid (Calls Try.prog 58 #[.pointer none] w fun e w' => e = .returned (.slice none 0 0) ∧ w = w') := nAll (.pointer none) w (lack_nil w)
  clear h
  go_enter Try.func34, Try.ntmps34
  go_wp2_with (first | (go_at_call 41; refine HC.out.mono ?_; rintro e w1 ⟨rfl, rfl⟩) | (go_at_call 58; refine HD.out.mono ?_; rintro e w1 ⟨rfl, rfl⟩))
  go_ret
  exact ⟨rfl, rfl⟩
theorem nCClone (p : Value) (w : World) (h : KpC p w) : Calls Try.prog 33 #[p] w fun e w' => e = .returned (.pointer none) ∧ w = w' := by
  have HC : Hid (Calls Try.prog 41 #[p] w fun e w' => e = .returned (.pointer none) ∧ w = w') := h
  clear h
  go_enter Try.func33, Try.ntmps33
  go_wp2_with (go_at_call 41; refine HC.out.mono ?_; rintro e w1 ⟨rfl, rfl⟩)
  go_ret
  exact ⟨rfl, rfl⟩
theorem nCLots (p : Value) (mem book : Int) (w : World) (h : KpC p w) : Calls Try.prog 19 #[p, .int .i64 mem, .int .i64 book] w fun e w' => e = .returned (.slice none 0 0) ∧ w = w' := by
  have HK : Hid (Calls Try.prog 43 #[.int .i64 mem, .int .i64 book] w fun e w' => e = .returned (.bool (!(wrm mem book))) ∧ w = w') := xbook mem book w
  have HA : Hid (Calls Try.prog 34 #[p] w fun e w' => e = .returned (.slice none 0 0) ∧ w = w') := nCAll p w h
  cases hw : wrm mem book
  · rw [hw] at HK
    have HK2 : Hid (Calls Try.prog 43 #[.int .i64 mem, .int .i64 book] w fun e w' => e = .returned (.bool true) ∧ w = w') := HK
    clear h hw HK
    go_enter Try.func19, Try.ntmps19
    go_wp2_with (first | (go_at_call 43; refine HK2.out.mono ?_; rintro e w1 ⟨rfl, rfl⟩) | (go_at_call 34; refine HA.out.mono ?_; rintro e w1 ⟨rfl, rfl⟩))
    refine wp_loop_rounds 1 ?_
    rw [rounds_succ]
    go_wp2
    go_ret
    exact ⟨rfl, rfl⟩
  · rw [hw] at HK
    have HK2 : Hid (Calls Try.prog 43 #[.int .i64 mem, .int .i64 book] w fun e w' => e = .returned (.bool false) ∧ w = w') := HK
    clear h hw HK
    go_enter Try.func19, Try.ntmps19
    go_wp2_with (go_at_call 43; refine HK2.out.mono ?_; rintro e w1 ⟨rfl, rfl⟩)
    go_ret
    exact ⟨rfl, rfl⟩
theorem nShift (p : Value) (mem f t : Int) (xs : List Lot) (hx : xs.length ≤ 1000000) (a : Option Addr) (cap : Nat) (w : World) (h : ∀ W, Below w.heap.size w W → KpC p W) (he : Lts w a xs) :
    Calls Try.prog 29 #[p, .int .i64 mem, .int .i64 f, .int .i64 t, .slice a xs.length cap] w fun e w' => e = .returned (.tuple #[.int .i64 0, .int .i64 3]) ∧ Below w.heap.size w w' := by
  have HL : Hid (Calls Try.prog 52 #[.agg #[.int .i64 mem, .int .i64 f, .int .i64 mem, .int .i64 t, .string ⟨#[]⟩, .int .i64 0], .slice a xs.length cap] w fun e w1 => ∃ v, e = .returned v ∧ Hid (Calls Try.prog 27 #[p, v] w1 fun e w2 => e = .returned (.tuple #[.int .i64 0, .int .i64 3]) ∧ Hid (Below w.heap.size w w2))) := by
    refine (xlines mem f mem t xs hx a cap w he).mono ?_
    rintro e w1 ⟨v, rfl, ho, hb⟩
    exact ⟨_, rfl, (nMove p v w1 (h w1 hb)).mono fun e w2 k => ⟨k.1, by rw [← k.2]; exact hb⟩⟩
  clear h he
  go_enter Try.func29, Try.ntmps29
  go_wp2_with (first | (go_at_call 52; refine HL.out.mono ?_; rintro e w1 ⟨v1, rfl, H2⟩; clear HL) | (go_at_call 27; refine H2.out.mono ?_; rintro e w2 ⟨rfl, HZ⟩; clear H2))
  go_returns
  exact ⟨rfl, HZ.out⟩
set_option maxHeartbeats 4000000 in
theorem nHas (p : Value) (p3 p4 p5 : Nat) (mem book : Int) (s : ByteArray) (w : World) (h : ∀ W, Below w.heap.size w W → KpC p W) (h3 : Bx w p3 #[p] 23) (h4 : Bx w p4 #[.int .i64 mem] 3) (h5 : Bx w p5 #[.string s] 9) :
    Calls Try.prog 40 #[.int .i64 book, .pointer (some ⟨p3, 0, none⟩), .pointer (some ⟨p4, 0, none⟩), .pointer (some ⟨p5, 0, none⟩)] w fun e w' => e = .returned (.int .i64 0) ∧ Below w.heap.size w w' := by
  have HK : Hid (∀ V, Below w.heap.size w V → Calls Try.prog 41 #[p] V fun e w' => e = .returned (.pointer none) ∧ w' = V) := fun V hb => (h V hb).mono fun _ _ k => ⟨k.1, k.2.symm⟩
  have HB : Hid (∀ V, Below w.heap.size w V → Calls Try.prog 42 #[.pointer none, .agg #[.int .i64 mem, .int .i64 book, .string s]] V fun e w' => e = .returned (.int .i64 0) ∧ Below w.heap.size w w') := fun V hb => (nBal (.pointer none) mem book s V (fun W _ => lack_nil W)).mono fun _ _ k => ⟨k.1, hb.trans (k.2.mono hb.size)⟩
  have l3 := h3.lt
  have l4 := h4.lt
  have l5 := h5.lt
  clear h
  go_enter Try.func40, Try.ntmps40
  go_upto_region 1 with fail
  refine wp_region_held (S := fun W => Below w.heap.size w W) (by kernel_rfl) ?_
  change wpAnyH _ _ _ _ _ 8 #[false, false, false, false, false, false, false, false] _ w.drew
  have hS0 : Below w.heap.size w w.drew := ⟨rfl, rfl, rfl, Nat.le_refl _, fun _ _ => rfl⟩
  obtain ⟨v0, hv0⟩ : ∃ v, v = w.drew := ⟨_, rfl⟩
  rw [← hv0] at hS0 ⊢
  clear hv0
  refine takeR (fuel := 7) (i := 0) (v := p) rfl (by kernel_rfl) (by kernel_rfl) (by kernel_rfl) (fun _ _ _ h => h) (Or.inl ⟨rfl, fun W hW => by have cj : W.cell? ⟨p3, 0, none⟩ = some (p) := (h3.below hW l3).cell 0; go_simp⟩) hS0 ?_
  simp only [Act.put, List.setIfInBounds_toArray, List.set_cons_zero, List.set_cons_succ]
  refine takeR (fuel := 6) (i := 2) (v := .int .i64 mem) rfl (by kernel_rfl) (by kernel_rfl) (by kernel_rfl) (fun _ _ _ h => h) (Or.inl ⟨rfl, fun W hW => by have cj : W.cell? ⟨p4, 0, none⟩ = some (.int .i64 mem) := (h4.below hW l4).cell 0; go_simp⟩) hS0 ?_
  simp only [Act.put, List.setIfInBounds_toArray, List.set_cons_zero, List.set_cons_succ]
  refine takeR (fuel := 5) (i := 3) (v := .int .i64 book) rfl (by kernel_rfl) (by kernel_rfl) (by kernel_rfl) (fun _ _ _ h => h) (Or.inl ⟨rfl, fun W hW => by go_simp⟩) hS0 ?_
  simp only [Act.put, List.setIfInBounds_toArray, List.set_cons_zero, List.set_cons_succ]
  refine takeR (fuel := 4) (i := 4) (v := .string s) rfl (by kernel_rfl) (by kernel_rfl) (by kernel_rfl) (fun _ _ _ h => h) (Or.inl ⟨rfl, fun W hW => by have cj : W.cell? ⟨p5, 0, none⟩ = some (.string s) := (h5.below hW l5).cell 0; go_simp⟩) hS0 ?_
  simp only [Act.put, List.setIfInBounds_toArray, List.set_cons_zero, List.set_cons_succ]
  refine takeR (fuel := 3) (i := 5) (v := .agg #[.int .i64 mem, .int .i64 book, .string s]) rfl (by kernel_rfl) (by kernel_rfl) (by kernel_rfl) (fun _ _ _ h => h) (Or.inl ⟨rfl, fun W hW => by go_simp⟩) hS0 ?_
  simp only [Act.put, List.setIfInBounds_toArray, List.set_cons_zero, List.set_cons_succ]
  refine consR (fuel := 2) (i := 1) rfl (by kernel_rfl) (fun K hK => ?_)
  rw [if_pos (by rfl)]
  go_simp
  refine (HK.out v0 hS0).mono ?_
  rintro e v1 ⟨rfl, hv1⟩
  refine hK.out _ _ (by rw [hv1]; exact hS0) (fun hS1 => ?_)
  clear hK hv1
  try simp only [Act.put, List.setIfInBounds_toArray, List.set_cons_zero, List.set_cons_succ]
  refine consR (fuel := 1) (i := 6) rfl (by kernel_rfl) (fun K hK => ?_)
  rw [if_pos (by rfl)]
  go_simp
  refine (HB.out v1 hS1).mono ?_
  rintro e v2 ⟨rfl, hS2'⟩
  refine hK.out _ _ hS2' (fun hS2 => ?_)
  clear hK
  try simp only [Act.put, List.setIfInBounds_toArray, List.set_cons_zero, List.set_cons_succ]
  refine takeR (fuel := 0) (i := 7) (v := .int .i64 0) rfl (by kernel_rfl) (by kernel_rfl) (by kernel_rfl) (fun _ _ _ h => h) (Or.inl ⟨rfl, fun W hW => by go_simp⟩) hS2 ?_
  simp only [Act.put, List.setIfInBounds_toArray, List.set_cons_zero, List.set_cons_succ]
  refine wpAnyH_done (by kernel_rfl) ?_ _
  go_wp2_with fail
  go_ret
  exact ⟨rfl, hS2⟩
set_option maxHeartbeats 8000000 in
theorem nPos (o : Option Addr) (mem : Int) (s : ByteArray) (w : World) (h : ∀ W, Below w.heap.size w W → KpC (.pointer o) W) : Calls Try.prog 16 #[.pointer o, .int .i64 mem, .string s] w fun e w' => e = .returned (.agg #[.int .i64 0, .int .i64 0, .int .i64 0, .int .i64 0]) ∧ Below w.heap.size w w' := by
  obtain ⟨w1, hw1⟩ : ∃ w1, w1 = (((w.alloc (.cells #[.pointer o] 23)).alloc (.cells #[.int .i64 mem] 3)).alloc (.cells #[.string s] 9)).alloc (.cells #[.int .i64 0, .int .i64 0, .int .i64 0, .int .i64 0] 42) := ⟨_, rfl⟩
  have HW : Hid ((((w.alloc (.cells #[.pointer o] 23)).alloc (.cells #[.int .i64 mem] 3)).alloc (.cells #[.string s] 9)).alloc (.cells #[.int .i64 0, .int .i64 0, .int .i64 0, .int .i64 0] 42) = w1) := hw1.symm
  have hX3 : Bx w1 w.heap.size #[.pointer o] 23 := by rw [hw1]; exact (((Bx.new w _ _).kept (grown_alloc _ _ none) (by simp)).kept (grown_alloc _ _ none) (by simp)).kept (grown_alloc _ _ none) (by simp)
  have hX4 : Bx w1 (w.heap.size + 1) #[.int .i64 mem] 3 := by
    rw [hw1]
    have := Bx.new (w.alloc (.cells #[.pointer o] 23)) #[.int .i64 mem] 3
    rw [World.size_alloc] at this
    exact (this.kept (grown_alloc _ _ none) (by simp)).kept (grown_alloc _ _ none) (by simp)
  have hX5 : Bx w1 (w.heap.size + 2) #[.string s] 9 := by
    rw [hw1]
    have := Bx.new ((w.alloc (.cells #[.pointer o] 23)).alloc (.cells #[.int .i64 mem] 3)) #[.string s] 9
    rw [World.size_alloc, World.size_alloc] at this
    exact this.kept (grown_alloc _ _ none) (by simp)
  have hX6 : Bx w1 (w.heap.size + 3) #[.int .i64 0, .int .i64 0, .int .i64 0, .int .i64 0] 42 := by
    rw [hw1]
    have := Bx.new (((w.alloc (.cells #[.pointer o] 23)).alloc (.cells #[.int .i64 mem] 3)).alloc (.cells #[.string s] 9)) #[.int .i64 0, .int .i64 0, .int .i64 0, .int .i64 0] 42
    rw [World.size_alloc, World.size_alloc, World.size_alloc] at this
    exact this
  have hB1 : Below w.heap.size w w1 := by rw [hw1]; exact ((((Below.refl _ w).alloc (Nat.le_refl _) _).alloc (by simp) _).alloc (by simp; omega) _).alloc (by simp; omega) _
  have HC : Hid (∀ (b : Int) V, 1 ≤ b → b ≤ 4 → Below w1.heap.size w1 V → Calls Try.prog 40 #[.int .i64 b, .pointer (some ⟨w.heap.size, 0, none⟩), .pointer (some ⟨w.heap.size + 1, 0, none⟩), .pointer (some ⟨w.heap.size + 2, 0, none⟩)] V fun e w' => e = .returned (.int .i64 0) ∧ Hid (Below w1.heap.size w1 w')) := fun b V h1 h2 hb => (nHas (.pointer o) _ _ _ mem b s V (fun W hW => h W (hB1.trans ((hb.trans (hW.mono hb.size)).mono hB1.size))) (hX3.below hb hX3.lt) (hX4.below hb hX4.lt) (hX5.below hb hX5.lt)).mono fun _ _ k => ⟨k.1, hb.trans (k.2.mono hb.size)⟩
  have HC1 := HC.out 1 w1 (by omega) (by omega) (Below.refl _ _)
  have HC2 : Hid (∀ V, Below w1.heap.size w1 V → _) := fun V hb => HC.out 2 V (by omega) (by omega) hb
  have HC3 : Hid (∀ V, Below w1.heap.size w1 V → _) := fun V hb => HC.out 3 V (by omega) (by omega) hb
  have HC4 : Hid (∀ V, Below w1.heap.size w1 V → _) := fun V hb => HC.out 4 V (by omega) (by omega) hb
  have HC1' : Hid (Calls Try.prog 40 #[.int .i64 1, .pointer (some ⟨w.heap.size, 0, none⟩), .pointer (some ⟨w.heap.size + 1, 0, none⟩), .pointer (some ⟨w.heap.size + 2, 0, none⟩)] w1 fun e w' => e = .returned (.int .i64 0) ∧ Hid (Below w1.heap.size w1 w')) := HC1
  have HFI : Hid (∀ V, Below w1.heap.size w1 V → V.cell? ⟨w.heap.size + 3, 0, none⟩ = some (.int .i64 0) ∧ V.cell? ⟨w.heap.size + 3, 1, none⟩ = some (.int .i64 0) ∧ V.cell? ⟨w.heap.size + 3, 2, none⟩ = some (.int .i64 0) ∧ V.cell? ⟨w.heap.size + 3, 3, none⟩ = some (.int .i64 0) ∧ V.frozen? ⟨w.heap.size + 3, 0, none⟩ = false ∧ V.frozen? ⟨w.heap.size + 3, 1, none⟩ = false ∧ V.frozen? ⟨w.heap.size + 3, 2, none⟩ = false ∧ V.frozen? ⟨w.heap.size + 3, 3, none⟩ = false ∧ Hid (∀ a b c d : Int, Bx ((((V.setCell ⟨w.heap.size + 3, 0, none⟩ (.int .i64 a)).setCell ⟨w.heap.size + 3, 1, none⟩ (.int .i64 b)).setCell ⟨w.heap.size + 3, 2, none⟩ (.int .i64 c)).setCell ⟨w.heap.size + 3, 3, none⟩ (.int .i64 d)) (w.heap.size + 3) #[.int .i64 a, .int .i64 b, .int .i64 c, .int .i64 d] 42 ∧ Below w.heap.size w ((((V.setCell ⟨w.heap.size + 3, 0, none⟩ (.int .i64 a)).setCell ⟨w.heap.size + 3, 1, none⟩ (.int .i64 b)).setCell ⟨w.heap.size + 3, 2, none⟩ (.int .i64 c)).setCell ⟨w.heap.size + 3, 3, none⟩ (.int .i64 d)))) := fun V hb => by
    have hx := hX6.below hb hX6.lt
    have hbb : Below w.heap.size w V := hB1.trans (hb.mono hB1.size)
    exact ⟨hx.cell 0, hx.cell 1, hx.cell 2, hx.cell 3, hx.froz 0, hx.froz 1, hx.froz 2, hx.froz 3, fun a b c d => ⟨(((hx.setc 0 _).setc 1 _).setc 2 _).setc 3 _, (((hbb.setCell (p := ⟨w.heap.size + 3, 0, none⟩) (by simp) _).setCell (p := ⟨w.heap.size + 3, 1, none⟩) (by simp) _).setCell (p := ⟨w.heap.size + 3, 2, none⟩) (by simp) _).setCell (p := ⟨w.heap.size + 3, 3, none⟩) (by simp) _⟩⟩
  clear HC HC1 h hX3 hX4 hX5 hX6 hB1 hw1
  go_enter Try.func16, Try.ntmps16
  go_upto_region 1 with fail
  rw [HW.out]
  clear HW
  go_wp2_with (first | (go_at_call 40; refine HC1'.out.mono ?_; rintro e w2 ⟨rfl, hb2⟩; clear HC1') | (go_at_call 40; refine (HC2.out _ hb2.out).mono ?_; rintro e w3 ⟨rfl, hb3⟩; clear HC2) | (go_at_call 40; refine (HC3.out _ hb3.out).mono ?_; rintro e w4 ⟨rfl, hb4⟩; clear HC3) | (go_at_call 40; refine (HC4.out _ hb4.out).mono ?_; rintro e w5 ⟨rfl, hb5⟩; clear HC4; obtain ⟨d0, d1, d2, d3, e0, e1, e2, e3, HFF⟩ := HFI.out _ hb5.out; clear HFI))
  refine bodyPost_ret (res_cell _ _ 6 42 _ _ _ rfl rfl (res42 (HFF.out _ _ _ _).1)) rfl ?_
  exact ⟨rfl, (HFF.out _ _ _ _).2⟩
end Go.Proofs.Ytbfnfebmmhhegaa
