/-
  Texts of my own, joined: no statement is proved here.
-/
import Derived.WalkKit
import Derived.ProofKit
import Derived.Test.YtgdnhkdfcjpdiaaGreatDoorRows
import Derived.Test.YtgdnhkdfcjpdiaaGreatDoorJaa
set_option linter.unusedSimpArgs false
set_option linter.unusedVariables false
namespace Go.Proofs.YtgdnhkdfcjpdiaaGreatDoor
open Go.ChangeShapes Go.WideShapes Go.ChangeAt Go.RowKit
def st (r : Nat) : Nat := (r / 2) ^^^ (2197175160 * (r % 2))
def sts : Nat → Nat → Nat
  | 0, r => r
  | n + 1, r => sts n (st r)
def en (r x : Nat) : Nat := sts 8 (r ^^^ x)
def adds (r : Nat) (l : List Int) : Nat := l.foldl (fun r x => en r x.toNat) r
def sumOf (l : List Int) : Nat := 4294967295 - adds 4294967295 l
theorem st_lt {r : Nat} (h : r < 4294967296) : st r < 4294967296 := by
  unfold st
  have h2 : 2197175160 * (r % 2) < 2 ^ 32 := by omega
  have h1 : r / 2 < 2 ^ 32 := by omega
  exact Nat.xor_lt_two_pow h1 h2
theorem sts_lt : ∀ (n : Nat) {r : Nat}, r < 4294967296 → sts n r < 4294967296
  | 0, _, h => h
  | n + 1, _, h => sts_lt n (st_lt h)
theorem en_lt {r x : Nat} (h : r < 4294967296) (hx : x < 256) : en r x < 4294967296 := by
  unfold en
  apply sts_lt
  exact Nat.xor_lt_two_pow (n := 32) h (by omega)
theorem adds_cons (r : Nat) (x : Int) (l : List Int) : adds r (x :: l) = adds (en r x.toNat) l := rfl
theorem adds_append (r : Nat) (l l' : List Int) : adds r (l ++ l') = adds (adds r l) l' := by unfold adds; rw [List.foldl_append]
theorem adds_lt : ∀ (l : List Int) {r : Nat}, r < 4294967296 → (∀ x ∈ l, 0 ≤ x ∧ x ≤ 255) → adds r l < 4294967296
  | [], _, h, _ => h
  | x :: l, r, h, hl => by
    have hx := hl x (by simp)
    rw [adds_cons]
    exact adds_lt l (en_lt h (by omega)) (fun y hy => hl y (by simp [hy]))
theorem adds_take (r : Nat) (l : List Int) (k : Nat) (h : k < l.length) : adds r (l.take (k + 1)) = en (adds r (l.take k)) (l.getD k 0).toNat := by
  rw [List.take_add_one, List.getElem?_eq_getElem h, adds_append, List.getD_eq_getElem?_getD, List.getElem?_eq_getElem h]
  rfl
theorem sts_add : ∀ (m n r : Nat), sts (m + n) r = sts n (sts m r)
  | 0, n, r => by rw [Nat.zero_add]; rfl
  | m + 1, n, r => by rw [show m + 1 + n = (m + n) + 1 by omega]; exact sts_add m n (st r)
theorem sts_succ (n r : Nat) : sts (n + 1) r = st (sts n r) := sts_add n 1 r
theorem not_eq {r : Nat} (h : r < 4294967296) : 4294967295 - r = 4294967295 ^^^ r := by
  have h1 : 4294967295 - r + r = 4294967295 := by omega
  apply Nat.eq_of_testBit_eq
  intro i
  rw [show 4294967295 - r = 2 ^ 32 - (r + 1) by omega, Nat.testBit_two_pow_sub_succ (by omega), Nat.testBit_xor, show (4294967295 : Nat) = 2 ^ 32 - 1 by rfl, Nat.testBit_two_pow_sub_one]
  by_cases hi : i < 32
  · simp [hi]
  · have : r.testBit i = false := Nat.testBit_lt_two_pow (Nat.lt_of_lt_of_le h (show 2 ^ 32 ≤ 2 ^ i from Nat.pow_le_pow_right (by omega) (by omega)))
    simp [hi, this]
theorem sum_lt (l : List Int) : sumOf l ≤ 4294967295 := Nat.sub_le _ _
theorem st_int {r : Nat} (h : r < 4294967296) : bits .xor .u32 ((r : Int) / 2) (IntKind.u32.wrap (2197175160 * bits .and .u32 (r : Int) 1)) = (st r : Int) := by
  have e1 : bits .and .u32 (r : Int) 1 = ((r % 2 : Nat) : Int) := by
    have := u32_and_nat r 1 h (by omega)
    rw [Nat.and_one_is_mod] at this
    exact this
  have e2 : IntKind.u32.wrap (2197175160 * ((r % 2 : Nat) : Int)) = ((2197175160 * (r % 2) : Nat) : Int) := by rw [IntKind.wrap_u32']; omega
  have e3 : (r : Int) / 2 = ((r / 2 : Nat) : Int) := by omega
  rw [e1, e2, e3, u32_xor_nat _ _ (by omega) (by omega)]
  rfl
theorem step_any (r : Nat) (w : World) (h : r < 4294967296) :
    Calls Tryz.prog 156 #[.int .u32 (r : Int)] w fun e w' => e = .returned (.int .u32 (st r : Nat)) ∧ w = w' := by
  have e : Hid _ := st_int h
  go_enter Tryz.func156, Tryz.ntmps156
  go_wp2
  go_returns
  exact ⟨ret_int (by rw [← e.out]; try rfl), rfl⟩
theorem xor_int {r x : Nat} (h : r < 4294967296) (hx : x < 256) : bits .xor .u32 (r : Int) (x : Int) = ((r ^^^ x : Nat) : Int) := u32_xor_nat r x h (by omega)
theorem xor_lt {r x : Nat} (h : r < 4294967296) (hx : x < 4294967296) : r ^^^ x < 4294967296 := Nat.xor_lt_two_pow (n := 32) h hx
theorem enter_any (r x : Nat) (w : World) (h : r < 4294967296) (hx : x < 256) :
    Calls Tryz.prog 153 #[.int .u32 (r : Int), .int .u8 (x : Int)] w fun e w' => e = .returned (.int .u32 (en r x : Nat)) ∧ w = w' := by
  have e := xor_int h hx
  have hl := xor_lt h (show x < 4294967296 by omega)
  go_enter Tryz.func153, Tryz.ntmps153
  go_wp2
  go_loop [0, 9] (fun v i => ∃ k : Nat, k ≤ 8 ∧ i = .int .i64 k ∧ v = .int .u32 (sts k (r ^^^ x) : Nat)) (fun _ i => 8 - (intOf i).toNat)
  case atStart => exact ⟨0, Nat.zero_le _, rfl, rfl⟩
  case round =>
    obtain ⟨k, hk, rfl, rfl⟩ := hrel
    have hL := sts_lt k hl
    by_cases hlt : k < 8
    · go_wp2_with (go_at_call 156; refine (step_any _ w hL).mono ?_; rintro e w' ⟨rfl, rfl⟩)
      go_round
      case rel => exact ⟨k + 1, by omega, by go_num, by rw [sts_succ]⟩
      case measure => simp [intOf]; omega
    · obtain rfl : k = 8 := by omega
      go_wp2
      go_returns
      exact ⟨rfl, rfl⟩
theorem poly_int {r : Nat} (h : r < 4294967296) : bits .xor .u32 (r : Int) 2197175160 = ((r ^^^ 2197175160 : Nat) : Int) := u32_xor_nat r 2197175160 h (by omega)
theorem st_odd {r : Nat} (h : r % 2 = 1) : st r = (r / 2) ^^^ 2197175160 := by unfold st; rw [h]
theorem st_even {r : Nat} (h : r % 2 = 0) : st r = r / 2 := by unfold st; rw [h]; simp
theorem rstep_any (r n : Nat) (w : World) (h : r < 4294967296) (hn : n ≤ 1000000000000) :
    Calls Tryz.prog 114 #[.int .u32 (r : Int), .int .i64 (n : Int)] w fun e w' => e = .returned (.int .u32 (sts n r : Nat)) ∧ w = w' := by
  go_enter Tryz.func114, Tryz.ntmps114
  go_wp2
  go_loop [0, 5] (fun v i => ∃ k : Nat, k ≤ n ∧ i = .int .i64 k ∧ v = .int .u32 (sts k r : Nat)) (fun _ i => n - (intOf i).toNat)
  case atStart => exact ⟨0, Nat.zero_le _, rfl, rfl⟩
  case round =>
    obtain ⟨k, hk, rfl, rfl⟩ := hrel
    have hL := sts_lt k h
    have hS : Hid (sts (k + 1) r = st (sts k r)) := sts_succ k r
    by_cases hlt : k < n
    · generalize sts k r = q at *
      have hm : (q : Int).tmod 2 = ((q % 2 : Nat) : Int) := by rw [Int.tmod_eq_emod_of_nonneg (by omega)]; omega
      have hd : (q : Int).tdiv 2 = ((q / 2 : Nat) : Int) := by rw [Int.tdiv_eq_ediv_of_nonneg (by omega)]; omega
      have hx : Hid _ := poly_int (show q / 2 < 4294967296 by omega)
      by_cases ho : q % 2 = 1
      · go_wp2
        go_round
        case rel => exact ⟨k + 1, by omega, by go_num, by rw [hS.out, st_odd ho, ← hx.out]; try rfl⟩
        case measure => simp [intOf]; omega
      · have ho2 : q % 2 = 0 := by omega
        go_wp2
        go_round
        case rel => exact ⟨k + 1, by omega, by go_num, by rw [hS.out, st_even ho2]; try rfl⟩
        case measure => simp [intOf]; omega
    · obtain rfl : k = n := by omega
      go_wp2
      go_returns
      exact ⟨rfl, rfl⟩
theorem radd_anyK (r : Nat) (a : Option Addr) (n c : Nat) (l : List Int) (w : World) (h : r < 4294967296) (hb : Bs w a n c l) :
    Calls Tryz.prog 84 #[.int .u32 (r : Int), .slice a n c] w fun e w' => e = .returned (.int .u32 (adds r l : Nat)) ∧ w = w' := by
  have hm := hb.cap; have hle := hb.le; unfold maxLen at hm
  have hlen := hb.len
  go_enter Tryz.func84, Tryz.ntmps84
  go_wp2
  go_loop [0, 5] (fun v i => ∃ k : Nat, k ≤ n ∧ i = .int .i64 k ∧ v = .int .u32 (adds r (l.take k) : Nat)) (fun _ i => n - (intOf i).toNat)
  case atStart => exact ⟨0, Nat.zero_le _, rfl, rfl⟩
  case round =>
    obtain ⟨k, hk, rfl, rfl⟩ := hrel
    have hL := adds_lt (l.take k) h (fun x hx => hb.byte x (List.mem_of_mem_take hx))
    by_cases hlt : k < n
    · obtain ⟨b, o, rfl, hc⟩ := hb.cell (by omega)
      have hS : Hid _ := adds_take r l k (by omega)
      have r0 := hb.range k
      have c0 := hc k hlt
      generalize adds r (l.take k) = q at *
      obtain ⟨x, hx⟩ : ∃ x : Nat, l.getD k 0 = (x : Int) := ⟨(l.getD k 0).toNat, by omega⟩
      rw [hx] at c0 r0 hS
      rw [Int.toNat_natCast] at hS
      have e := xor_int hL (show x < 256 by omega)
      have hl := xor_lt hL (show x < 4294967296 by omega)
      clear hc hb hx
      go_wp2_with (go_at_call 114; refine (rstep_any _ 8 w hl (by omega)).mono ?_; rintro e w' ⟨rfl, rfl⟩)
      go_round
      case rel => exact ⟨k + 1, by omega, by go_num, by rw [hS.out]; try rfl⟩
      case measure => simp [intOf]; omega
    · obtain rfl : k = n := by omega
      have hT : Hid (l.take k = l) := List.take_of_length_le (by omega)
      go_wp2
      go_returns
      exact ⟨by rw [hT.out]; rfl, rfl⟩
theorem rof_anyK (a : Option Addr) (n c : Nat) (l : List Int) (w : World) (hb : Bs w a n c l) :
    Calls Tryz.prog 60 #[.slice a n c] w fun e w' => e = .returned (.int .u32 (sumOf l : Nat)) ∧ w = w' := by
  have hL := adds_lt l (r := 4294967295) (by omega) hb.byte
  have hE : Hid ((sumOf l : Int) = 4294967295 - (adds 4294967295 l : Nat)) := by show _ = _; unfold sumOf; omega
  go_enter Tryz.func60, Tryz.ntmps60
  go_wp2_with (go_at_call 84; refine (radd_anyK 4294967295 _ _ _ _ _ (by omega) hb).mono ?_; rintro e w' ⟨rfl, rfl⟩)
  go_returns
  exact ⟨ret_int hE.out.symm, rfl⟩
theorem begin_any (w : World) :
    Calls Tryz.prog 145 #[] w fun e w' => e = .returned (.agg #[.int .u32 4294967295, .int .i64 0]) ∧ Below w.heap.size w w' := by
  go_enter Tryz.func145, Tryz.ntmps145
  go_wp2
  exact bodyPost_ret (v := .agg #[.int .u32 4294967295, .int .i64 0]) (by simp [results, Tryz.results145, go_sem]) rfl ⟨rfl, by go_grown⟩
theorem value_any (r : Nat) (n : Int) (w : World) (h : r < 4294967296) :
    Calls Tryz.prog 147 #[.agg #[.int .u32 (r : Int), .int .i64 n]] w fun e w' => e = .returned (.int .u32 (4294967295 - r : Nat)) ∧ Below w.heap.size w w' := by
  have e : Hid (bits .xor .u32 IntKind.u32.max (r : Int) = ((4294967295 - r : Nat) : Int)) := by
    show _ = _
    rw [not_eq h]; exact u32_xor_nat 4294967295 r (by omega) h
  go_enter Tryz.func147, Tryz.ntmps147
  go_wp2
  go_returns
  exact ⟨ret_int e.out, by go_grown⟩
theorem add_anyK (r : Nat) (N : Int) (a : Option Addr) (n c : Nat) (l : List Int) (w : World) (h : r < 4294967296) (hb : Bs w a n c l) (hN : 0 ≤ N) (hNn : N + n ≤ 9223372036854775807) :
    Calls Tryz.prog 146 #[.agg #[.int .u32 (r : Int), .int .i64 N], .slice a n c] w fun e w' => e = .returned (.agg #[.int .u32 (adds r l : Nat), .int .i64 (N + n)]) ∧ Below w.heap.size w w' := by
  have hm := hb.cap; have hle := hb.le; unfold maxLen at hm
  have hlen := hb.len
  go_enter Tryz.func146, Tryz.ntmps146
  go_wp2
  go_loopw [9] (fun i wr => ∃ k : Nat, k ≤ n ∧ i = .int .i64 k ∧ wr = (w.alloc (Obj.cells #[.int .u32 (adds r (l.take k) : Nat), .int .i64 N] 238)).alloc (Obj.cells #[.int .u32 0, .int .i64 0] 238)) (fun i _ => n - (intOf i).toNat)
  case atStart => exact ⟨0, Nat.zero_le _, rfl, rfl⟩
  case round =>
    obtain ⟨k, hk, rfl, rfl⟩ := hrel
    have hL := adds_lt (l.take k) h (fun x hx => hb.byte x (List.mem_of_mem_take hx))
    by_cases hlt : k < n
    · have hB := hb.later (((Below.refl w.heap.size w).alloc (Nat.le_refl _) (Obj.cells #[.int .u32 (adds r (l.take k) : Nat), .int .i64 N] 238)).alloc (by simp) (Obj.cells #[.int .u32 0, .int .i64 0] 238))
      obtain ⟨b, o, rfl, hc⟩ := hB.cell (by omega)
      have hS : Hid _ := adds_take r l k (by omega)
      have r0 := hb.range k
      have c0 := hc k hlt
      generalize adds r (l.take k) = q at *
      obtain ⟨x, hx⟩ : ∃ x : Nat, l.getD k 0 = (x : Int) := ⟨(l.getD k 0).toNat, by omega⟩
      rw [hx] at c0 r0 hS
      rw [Int.toNat_natCast] at hS
      clear hc hx hB
      go_wp2_with (go_at_call 153; refine (enter_any q x _ hL (by omega)).mono ?_; rintro e w' ⟨rfl, rfl⟩)
      go_roundw
      case rel => exact ⟨k + 1, by omega, by go_num, by rw [hS.out]⟩
      case measure => simp [intOf]; omega
    · obtain rfl : k = n := by omega
      have hT : l.take k = l := List.take_of_length_le (by omega)
      go_wp2
      exact bodyPost_ret (v := .agg #[.int .u32 (adds r l : Nat), .int .i64 (N + k)]) (by simp [results, Tryz.results146, go_sem]) rfl ⟨rfl, by go_grown⟩
structure Sm (w : World) (g : Nat) (r N : Int) : Prop where
  reg : w.cell? ⟨g, 0, none⟩ = some (.int .u32 r)
  num : w.cell? ⟨g, 1, none⟩ = some (.int .i64 N)
  fr0 : w.frozen? ⟨g, 0, none⟩ = false
  fr1 : w.frozen? ⟨g, 1, none⟩ = false
theorem Sm.lt {w : World} {g : Nat} {r N : Int} (h : Sm w g r N) : g < w.heap.size := World.block_lt_of_cell? w ⟨g, 0, none⟩ h.reg
theorem Sm.later {w w' : World} {g : Nat} {r N : Int} (h : Sm w g r N) (hb : Below w.heap.size w w') : Sm w' g r N :=
  ⟨by rw [hb.cell (p := ⟨g, 0, none⟩) h.lt]; exact h.reg, by rw [hb.cell (p := ⟨g, 1, none⟩) h.lt]; exact h.num,
   by rw [hb.frozen (p := ⟨g, 0, none⟩) h.lt]; exact h.fr0, by rw [hb.frozen (p := ⟨g, 1, none⟩) h.lt]; exact h.fr1⟩
theorem Sm.made (w : World) (r N : Int) : Sm (w.alloc (Obj.cells #[.int .u32 r, .int .i64 N] 238)) w.heap.size r N := by
  constructor <;> simp [go_sem]
theorem Sm.stored {w : World} {g : Nat} {r N : Int} (h : Sm w g r N) (r' N' : Int) : Sm ((w.setCell ⟨g, 0, none⟩ (.int .u32 r')).setCell ⟨g, 1, none⟩ (.int .i64 N')) g r' N' := by
  have h1 := h.reg; have h2 := h.num
  refine ⟨?_, ?_, by simpa using h.fr0, by simpa using h.fr1⟩
  · rw [World.cell?_setCell_other _ _ _ _ (by simp), World.cell?_setCell_same _ _ _ h1]
  · rw [World.cell?_setCell_same _ _ _ (by rw [World.cell?_setCell_other _ _ _ _ (by simp)]; exact h2)]
theorem of_anyK (a : Option Addr) (n c : Nat) (L : List (List Int)) (w : World) (hb : Bss w a n c L) (hs : L.flatten.length ≤ 1000000000000) :
    Calls Tryz.prog 127 #[.slice a n c] w fun e w' => e = .returned (.int .u32 (sumOf L.flatten : Nat)) ∧ Below w.heap.size w w' := by
  have hm := hb.cap; have hle := hb.le; unfold maxLen at hm
  have hlen := hb.len
  have hby := hb.byte
  go_enter Tryz.func127, Tryz.ntmps127
  go_wp2_with (go_at_call 145; refine (begin_any w).mono ?_; rintro e w1 ⟨rfl, h1⟩)
  have hsz := h1.size
  go_loopw [9] (fun i wr => ∃ k : Nat, k ≤ n ∧ i = .int .i64 k ∧ Below w.heap.size w wr ∧ Sm wr w1.heap.size (adds 4294967295 (L.take k).flatten : Nat) (L.take k).flatten.length) (fun i _ => n - (intOf i).toNat)
  case atStart => exact ⟨0, Nat.zero_le _, rfl, h1.alloc hsz _, Sm.made w1 _ _⟩
  case round =>
    obtain ⟨k, hk, rfl, hB, hM⟩ := hrel
    have hL := adds_lt (L.take k).flatten (r := 4294967295) (by omega) (flat_byte hby k)
    have hN : (L.take k).flatten.length ≤ 1000000000000 := by
      have : L.flatten = (L.take k).flatten ++ (L.drop k).flatten := by rw [← List.flatten_append, List.take_append_drop]
      rw [this, List.length_append] at hs; omega
    have m1 := hM.reg
    have m2 := hM.num
    have m3 := hM.fr0
    have m4 := hM.fr1
    have m5 := hM.lt
    by_cases hlt : k < n
    · obtain ⟨b, o, rfl, hc⟩ := (hb.later hB).cell (by omega)
      obtain ⟨x, y, z, c1, c2⟩ := hc k hlt
      have hS : Hid _ := flat_take L k (by omega)
      have hy := c2.len
      have hy1 := c2.le
      have hy2 := c2.cap
      unfold maxLen at hy2
      have hN2 : (L.take k).flatten.length + y ≤ 1000000000000 := by
        have e : L.flatten = (L.take (k + 1)).flatten ++ (L.drop (k + 1)).flatten := by rw [← List.flatten_append, List.take_append_drop]
        rw [e, List.length_append, hS.out, List.length_append, hy] at hs; omega
      generalize L.getD k [] = lk at *
      generalize hP : (L.take k).flatten = P at *
      go_wp2_with (go_at_call 146; refine (add_anyK _ _ _ _ _ _ _ hL c2 (by omega) (by omega)).mono ?_; rintro e w2 ⟨rfl, h2⟩; obtain ⟨hc2, hf2⟩ := (⟨fun b o h => h2.cell (p := ⟨b, o, none⟩) h, fun b o h => h2.frozen (p := ⟨b, o, none⟩) h⟩ : (∀ b o, b < _ → w2.cell? ⟨b, o, none⟩ = _) ∧ (∀ b o, b < _ → w2.frozen? ⟨b, o, none⟩ = _)))
      go_roundw
      case rel =>
        refine ⟨k + 1, by omega, by go_num, ((bnext hB h2 (Nat.le_refl _)).setCell (by simpa using hsz) _).setCell (by simpa using hsz) _, ?_⟩
        rw [hS.out, adds_append, List.length_append, hy]
        have := (hM.later h2).stored (adds (adds 4294967295 P) lk : Nat) ((P.length : Int) + (y : Int))
        simpa using this
      case measure => simp [intOf]; omega
    · obtain rfl : k = n := by omega
      have hT : L.take k = L := List.take_of_length_le (by omega)
      rw [hT] at m1 m2 hL hN
      have hE : Hid (4294967295 - adds 4294967295 L.flatten = sumOf L.flatten) := rfl
      clear hT
      go_wp2_with (go_at_call 147; refine (value_any _ _ _ hL).mono ?_; rintro e w2 ⟨rfl, h2⟩)
      go_returns
      exact ⟨rfl, bnext hB h2 (Nat.le_refl _)⟩
end Go.Proofs.YtgdnhkdfcjpdiaaGreatDoor
