/- The reference's plain letters of one sign: great and plain. -/
import Derived.Test.YtgkefaojbdjnoaaDoorZ
import Derived.WalkKit
import Derived.ProofKit
import Derived.Handy
import Derived.WalkLawsBesides
import Derived.WalkSpells
import Derived.BigQuiet
import Derived.BigCall
import Derived.Deep.QuietTactic
import Derived.Deep.Light
import Derived.Deep.OwnRows
import Derived.Laws.AppendOwnNone
import Derived.Laws.Strings3
import Derived.Laws.RangeAny
import Derived.Deep.RegionWith
import Derived.Lib.BitFns
import Derived.Lib.Walk
import Derived.Lib.Strings
import Derived.Lib.OthersKept
import Derived.Deep.CutBlock
import Derived.Deep.DeepCutAuto
import Derived.Deep.LoopGhost
import Derived.Deep.RegionHeld3
import Derived.Lib.SmallJoins
import Derived.Maps.AppendAt
import Derived.Laws.IdiomStrings
namespace Go.Proofs.YtgkefaojbdjnoaaDoor
open Go.RowKit
set_option linter.unusedVariables false
set_option linter.unusedSimpArgs false
def grt : List UInt8 → List UInt8
  | [] => []
  | b :: l => if 97 ≤ b.toNat ∧ b.toNat ≤ 122 then (b.toNat - 32).toUInt8 :: grt l else grt l
theorem grt_append : ∀ a b : List UInt8, grt (a ++ b) = grt a ++ grt b
  | [], b => rfl
  | x :: a, b => by
    rw [List.cons_append, grt, grt, grt_append a b]
    split <;> rfl
theorem grt_len : ∀ l : List UInt8, (grt l).length ≤ l.length
  | [] => by simp [grt]
  | b :: l => by
    have := grt_len l
    rw [grt]
    split <;> (simp only [List.length_cons]; omega)
def rws : List UInt8 := [97, 97, 97, 97, 97, 97, 97, 99, 101, 101, 101, 101, 105, 105, 105, 105, 100, 110, 111, 111, 111, 111, 111, 32, 111, 117, 117, 117, 117, 121, 116, 121]
def mor : List UInt8 := [97, 97, 97, 97, 97, 97, 99, 99, 99, 99, 99, 99, 99, 99, 100, 100, 100, 100, 101, 101, 101, 101, 101, 101, 101, 101, 101, 101, 103, 103, 103, 103, 103, 103, 103, 103, 104, 104, 104, 104, 105, 105, 105, 105, 105, 105, 105, 105, 105, 105, 32, 32, 106, 106, 107, 107, 107, 108, 108, 108, 108, 108, 108, 108, 108, 108, 108, 110, 110, 110, 110, 110, 110, 110, 110, 110, 111, 111, 111, 111, 111, 111, 32, 32, 114, 114, 114, 114, 114, 114, 115, 115, 115, 115, 115, 115, 115, 115, 116, 116, 116, 116, 116, 116, 117, 117, 117, 117, 117, 117, 117, 117, 117, 117, 117, 117, 119, 119, 121, 121, 121, 122, 122, 122, 122, 122, 122, 115]
def prs : List Nat := [228, 230, 246, 248, 339, 252, 223, 254, 229]
def txs : List (List UInt8) := [[97, 101], [97, 101], [111, 101], [111, 101], [111, 101], [117, 101], [115, 115], [116, 104], [97, 97]]
def tbl (c : Nat) : List UInt8 :=
  if 224 ≤ c ∧ c ≤ 255 then [rws.getD (c - 224) 0]
  else if 256 ≤ c ∧ c ≤ 383 then [mor.getD (c - 256) 0]
  else []
def pll (c : Nat) : List UInt8 :=
  if c = 228 ∨ c = 230 then [97, 101]
  else if c = 246 ∨ c = 248 ∨ c = 339 then [111, 101]
  else if c = 252 then [117, 101]
  else if c = 223 then [115, 115]
  else if c = 254 then [116, 104]
  else if c = 229 then [97, 97]
  else tbl c
set_option maxRecDepth 100000 in
theorem rws_up : ∀ i, i < 32 → grt [rws.getD i 0] = one wst i := by decide +kernel
set_option maxRecDepth 100000 in
theorem mor_up : ∀ i, i < 128 → grt [mor.getD i 0] = one ext i := by decide +kernel
theorem grt_tbl (c : Nat) : grt (tbl c) = if 224 ≤ c ∧ c ≤ 255 then one wst (c - 224) else if 256 ≤ c ∧ c ≤ 383 then one ext (c - 256) else [] := by
  unfold tbl
  split
  · exact rws_up _ (by omega)
  · split
    · exact mor_up _ (by omega)
    · rfl
theorem grt_pll (c : Nat) : grt (pll c) = high c := by
  unfold high
  by_cases h : c = 228 ∨ c = 230 ∨ c = 246 ∨ c = 248 ∨ c = 339 ∨ c = 252 ∨ c = 223 ∨ c = 254 ∨ c = 229
  · rcases h with rfl | rfl | rfl | rfl | rfl | rfl | rfl | rfl | rfl
    all_goals rfl
  · have h1 : pairs c = [] := by
      unfold pairs
      rw [if_neg (by omega), if_neg (by omega), if_neg (by omega), if_neg (by omega), if_neg (by omega), if_neg (by omega)]
    have h2 : pll c = tbl c := by
      unfold pll
      rw [if_neg (by omega), if_neg (by omega), if_neg (by omega), if_neg (by omega), if_neg (by omega), if_neg (by omega)]
    rw [h1, h2, if_neg (by simp), grt_tbl]
theorem pll_hit {c k : Nat} (hk : k < 9) (h : prs.getD k 0 = c) : pll c = txs.getD k [] := by
  subst h
  have : k = 0 ∨ k = 1 ∨ k = 2 ∨ k = 3 ∨ k = 4 ∨ k = 5 ∨ k = 6 ∨ k = 7 ∨ k = 8 := by omega
  rcases this with rfl | rfl | rfl | rfl | rfl | rfl | rfl | rfl | rfl
  all_goals rfl
theorem pll_miss {c : Nat} (h : ∀ j, j < 9 → prs.getD j 0 ≠ c) : pll c = tbl c := by
  have e0 := h 0 (by omega); have e1 := h 1 (by omega); have e2 := h 2 (by omega); have e3 := h 3 (by omega); have e4 := h 4 (by omega); have e5 := h 5 (by omega); have e6 := h 6 (by omega); have e7 := h 7 (by omega); have e8 := h 8 (by omega)
  simp only [prs, List.getD_cons_zero, List.getD_cons_succ] at e0 e1 e2 e3 e4 e5 e6 e7 e8
  unfold pll
  rw [if_neg (by omega), if_neg (by omega), if_neg (by omega), if_neg (by omega), if_neg (by omega), if_neg (by omega)]
theorem pll_len (c : Nat) : (pll c).length ≤ 2 := by
  unfold pll tbl
  repeat' split
  all_goals simp
set_option maxHeartbeats 4000000 in
theorem rgreat (s : ByteArray) (hs : s.size ≤ 1000) (w : World) : Calls Tryd.prog 48 #[.string s] w (STB (grt s.data.toList) w) := by
  have HL : Hid (s.data.toList.length = s.size) := rfl
  go_enter Tryd.func48, Tryd.ntmps48
  go_wp2_with fail
  go_loopw [3, 4] (fun v i wr => ∃ (k : Nat) (q : ByteArray), i = .int .i64 k ∧ v = .string q ∧ k ≤ s.size ∧ q.size ≤ k ∧ Hid (q.data.toList = grt (s.data.toList.take k)) ∧ Hid (Below w.heap.size w wr)) (fun _ i _ => s.size - (Lib.intOf i).toNat)
  case atStart => exact ⟨0, ⟨#[]⟩, rfl, rfl, Nat.zero_le _, Nat.le_refl _, rfl, Below.refl _ _⟩
  case round =>
    obtain ⟨k, q, rfl, rfl, hk, hq, hqs, hbr⟩ := hrel
    by_cases hkn : k < s.size
    · have hkz : (k : Int) < (s.size : Int) := by omega
      obtain ⟨x, hx⟩ : ∃ x : UInt8, s[k] = x := ⟨_, rfl⟩
      have Hx : Hid (s.data.toList.take (k + 1) = s.data.toList.take k ++ [x]) := by
        have h1 : s.data.toList[k]? = some x := by rw [← hx]; exact Lib.data_getElem? s k hkn
        unfold Hid
        rw [List.take_add_one, h1]
        rfl
      have hxl := x.toNat_lt
      have hsz : w.heap.size ≤ wr.heap.size := hbr.out.size
      by_cases hb : 97 ≤ x.toNat ∧ x.toNat ≤ 122
      · have h97 : (97 : Int) ≤ (x.toNat : Int) := by omega
        have h122 : (x.toNat : Int) ≤ 122 := by omega
        have hcv0 := str_new wr [(x.toNat - 32).toUInt8] 1
        have hcell : (Lib.byteCells [(x.toNat - 32).toUInt8]).toArray = #[Value.int .u8 ((x.toNat : Int) - 32)] := by
          simp only [Lib.byteCells, List.map, u8n _ (show x.toNat - 32 < 256 by omega)]
          rw [show ((x.toNat - 32 : Nat) : Int) = (x.toNat : Int) - 32 by omega]
        rw [hcell] at hcv0
        have hcv : (convert 50 9 (Value.slice (some ⟨wr.heap.size, 0, none⟩) 1 1)).run Tryd.prog (wr.alloc (.cells #[.int .u8 ((x.toNat : Int) - 32)] 5)) = .ok (.string ⟨#[(x.toNat - 32).toUInt8]⟩) (wr.alloc (.cells #[.int .u8 ((x.toNat : Int) - 32)] 5)) := hcv0
        clear hcv0
        have Hg : Hid (grt (s.data.toList.take (k + 1)) = grt (s.data.toList.take k) ++ [(x.toNat - 32).toUInt8]) := by
          unfold Hid
          rw [Hx.out, grt_append]
          simp only [grt]
          rw [if_pos hb]
        generalize (x.toNat - 32).toUInt8 = y at *
        clear hcell hb
        go_wp2_with fail
        go_roundw
        case rel =>
          refine ⟨k + 1, q ++ ⟨#[y]⟩, by go_num, rfl, by omega, ?_, ?_, hbr.out.alloc hsz _⟩
          · rw [ByteArray.size_append]
            show q.size + 1 ≤ _
            omega
          · unfold Hid
            rw [Hg.out, ByteArray.data_append, Array.toList_append, hqs.out]
        case measure =>
          simp [Lib.intOf]
          omega
      · have Hg : Hid (grt (s.data.toList.take (k + 1)) = grt (s.data.toList.take k)) := by
          unfold Hid
          rw [Hx.out, grt_append]
          simp only [grt]
          rw [if_neg hb, List.append_nil]
        by_cases h97 : 97 ≤ x.toNat
        · have h97' : (97 : Int) ≤ (x.toNat : Int) := by omega
          have h122 : ¬ (x.toNat : Int) ≤ 122 := by omega
          clear hb
          go_wp2_with fail
          go_roundw
          case rel => exact ⟨k + 1, q, by go_num, rfl, by omega, by omega, by unfold Hid; rw [Hg.out]; exact hqs.out, hbr⟩
          case measure =>
            simp [Lib.intOf]
            omega
        · have h97' : ¬ (97 : Int) ≤ (x.toNat : Int) := by omega
          clear hb
          go_wp2_with fail
          go_roundw
          case rel => exact ⟨k + 1, q, by go_num, rfl, by omega, by omega, by unfold Hid; rw [Hg.out]; exact hqs.out, hbr⟩
          case measure =>
            simp [Lib.intOf]
            omega
    · have hkz : ¬ (k : Int) < (s.size : Int) := by omega
      go_wp2_with fail
      go_ret
      refine STB.mk ?_ hbr.out
      rw [hqs.out, List.take_of_length_le (by rw [HL.out]; omega)]
def APrs : Array Value := #[.int .i64 228, .int .i64 230, .int .i64 246, .int .i64 248, .int .i64 339, .int .i64 252, .int .i64 223, .int .i64 254, .int .i64 229]
def ATxs : Array Value := #[.string ⟨#[97, 101]⟩, .string ⟨#[97, 101]⟩, .string ⟨#[111, 101]⟩, .string ⟨#[111, 101]⟩, .string ⟨#[111, 101]⟩, .string ⟨#[117, 101]⟩, .string ⟨#[115, 115]⟩, .string ⟨#[116, 104]⟩, .string ⟨#[97, 97]⟩]
theorem prs_cell {k : Nat} (hk : k < 9) : APrs[k]? = some (.int .i64 ((prs.getD k 0 : Nat) : Int)) := by
  have : k = 0 ∨ k = 1 ∨ k = 2 ∨ k = 3 ∨ k = 4 ∨ k = 5 ∨ k = 6 ∨ k = 7 ∨ k = 8 := by omega
  rcases this with rfl | rfl | rfl | rfl | rfl | rfl | rfl | rfl | rfl
  all_goals rfl
theorem txs_cell {k : Nat} (hk : k < 9) : ATxs[k]? = some (.string ⟨(txs.getD k []).toArray⟩) := by
  have : k = 0 ∨ k = 1 ∨ k = 2 ∨ k = 3 ∨ k = 4 ∨ k = 5 ∨ k = 6 ∨ k = 7 ∨ k = 8 := by omega
  rcases this with rfl | rfl | rfl | rfl | rfl | rfl | rfl | rfl | rfl
  all_goals rfl
theorem prs_at (w : World) (o : Obj) {k : Nat} (hk : k < 9) : ((w.alloc (.cells APrs 3)).alloc o).cell? ⟨w.heap.size, k, none⟩ = some (.int .i64 ((prs.getD k 0 : Nat) : Int)) := by
  have h1 : ((w.alloc (.cells APrs 3)).alloc o).heap[w.heap.size]? = some (.cells APrs 3 (0, 0)) := (Lib.alloc_old _ _ _ (by simp)).trans (heap_alloc_new w _)
  simp only [World.cell?, h1, prs_cell hk]
  rfl
theorem txs_at (w : World) {k : Nat} (hk : k < 9) : (w.alloc (.cells ATxs 9)).cell? ⟨w.heap.size, k, none⟩ = some (.string ⟨(txs.getD k []).toArray⟩) := by
  have h1 : (w.alloc (.cells ATxs 9)).heap[w.heap.size]? = some (.cells ATxs 9 (0, 0)) := heap_alloc_new w _
  simp only [World.cell?, h1, txs_cell hk]
  rfl
end Go.Proofs.YtgkefaojbdjnoaaDoor
