/-
  Texts of my own, joined: no statement is proved here.
-/
import Derived.Lib.BufferWrite
import Derived.Test.YtgdnhkdfcjpdiaaGreatDoorJaw
import Derived.Test.YtgdnhkdfcjpdiaaGreatDoorJay
set_option linter.unusedSimpArgs false
set_option linter.unusedVariables false
namespace Go.Proofs.YtgdnhkdfcjpdiaaGreatDoor
open Go.ChangeShapes Go.WideShapes Go.ChangeAt Go.RowKit
def u2 (x : Nat) : List UInt8 := [UInt8.ofNat (x % 256), UInt8.ofNat (x / 256)]
def get2 (l : List UInt8) (k : Nat) : Nat := (l.getD k 0).toNat + 256 * (l.getD (k + 1) 0).toNat
theorem get2_lt (l : List UInt8) (k : Nat) : get2 l k < 65536 := by
  have := (l.getD k 0).toNat_lt; have := (l.getD (k + 1) 0).toNat_lt; unfold get2; omega
theorem cells_u2 {x : Nat} (h : x < 65536) : cells (u2 x) = [.int .u8 ((x : Int) % 256), .int .u8 ((x : Int) / 256)] := by
  unfold u2 cells
  simp only [List.map_cons, List.map_nil, Extern.Stop.cell]
  rw [u8_to (by omega), u8_to (by omega)]
  rw [show Int.ofNat (x % 256) = (x : Int) % 256 from by have : Int.ofNat (x % 256) = ((x % 256 : Nat) : Int) := rfl; omega, show Int.ofNat (x / 256) = (x : Int) / 256 from by have : Int.ofNat (x / 256) = ((x / 256 : Nat) : Int) := rfl; omega]
theorem Gm.ext3 {s t : Gm} (h0 : s.g = t.g) (h1 : s.i = t.i) (h2 : s.d = t.d) : s = t := by
  cases s; cases t; simp only at h0 h1 h2; subst h0; subst h1; subst h2; rfl
def ldL (s : Gm) : List UInt8 := [83, 67, 85, 80] ++ u2 s.g.toNat ++ u2 s.i.toNat ++ u2 s.d.toNat ++ List.replicate 44 0
def ldP (s : Gm) : Ld := ⟨ldL s, by unfold ldL u2; simp⟩
def spP (s : Gm) : Ld := if s.ok then ldP s else Ld.zero
def nums (p : Ld) : Gm := ⟨(get2 p.l 4 : Nat), (get2 p.l 6 : Nat), (get2 p.l 8 : Nat)⟩
abbrev isS (p : Ld) : Prop := (nums p).ok ∧ ldP (nums p) = p
def sgE (p : Ld) : Int := if isS p then 0 else 22
def sgG (p : Ld) : Gm := if isS p then nums p else Gm.zero
theorem sgE_zero {p : Ld} (h : sgE p = 0) : isS p := by
  unfold sgE at h; split at h; assumption; omega
theorem sg_of {p : Ld} (h : isS p) : (sgG p).ok ∧ ldP (sgG p) = p := by unfold sgG; rw [if_pos h]; exact h
def siE (b : Blk) : Int := if gES 1 b = 0 then sgE (gP 1 b) else 22
def siG (b : Blk) : Gm := if gES 1 b = 0 then sgG (gP 1 b) else Gm.zero
def hasB (b : Blk) (n : Nat) : Bool := decide (siE b = 0 ∧ (siG b).total = (n : Int))
theorem gE_one {b : Blk} : gES 1 b = 0 ↔ oKS b = 1 := by
  unfold gES
  rw [show isK 1 = true from rfl, if_pos rfl]
  constructor
  · intro h; split at h <;> omega
  · intro h; rw [if_pos (by omega)]
theorem gP_one {b : Blk} (h : oKS b = 1) : gP 1 b = oP b := by unfold gP; rw [if_pos (gE_one.2 h)]
theorem si_ok {b : Blk} (h : siE b = 0) : (siG b).ok ∧ oKS b = 1 ∧ oP b = ldP (siG b) := by
  by_cases hg : gES 1 b = 0
  · have hk := gE_one.1 hg
    unfold siE at h; rw [if_pos hg] at h
    unfold siG; rw [if_pos hg]
    have := sg_of (sgE_zero h)
    rw [gP_one hk] at *
    exact ⟨this.1, hk, this.2.symm⟩
  · unfold siE at h; rw [if_neg hg] at h; omega
theorem has_ok {b : Blk} {n : Nat} (h : hasB b n = true) : siE b = 0 ∧ (siG b).ok ∧ (siG b).total = (n : Int) ∧ oKS b = 1 ∧ oP b = ldP (siG b) := by
  unfold hasB at h
  have h := of_decide_eq_true h
  obtain ⟨a, b, c⟩ := si_ok h.1
  exact ⟨h.1, a, h.2, b, c⟩
def s0 (l : List Blk) : Blk := l.getD 0 Blk.zero
def s1 (l : List Blk) : Blk := l.getD 1 Blk.zero
def c0 (l : List Blk) : Bool := decide (2 ≤ l.length) && hasB (s0 l) l.length
def c1 (l : List Blk) : Bool := decide (2 ≤ l.length) && hasB (s1 l) l.length
def fdE (l : List Blk) : Int := if c0 l then 0 else if c1 l then 0 else 22
def fdI (l : List Blk) : Int := if c0 l then 0 else if c1 l then 1 else 0
def fdG (l : List Blk) : Gm := if c0 l then siG (s0 l) else if c1 l then siG (s1 l) else Gm.zero
theorem fd_ok {l : List Blk} (h : fdE l = 0) : 2 ≤ l.length ∧ (fdG l).ok ∧ (fdG l).total = (l.length : Int) := by
  unfold fdE at h
  unfold fdG
  cases h0 : c0 l
  · cases h1 : c1 l
    · rw [h0, h1] at h; simp at h
    · unfold c1 at h1
      simp only [Bool.and_eq_true, decide_eq_true_eq] at h1
      have := has_ok h1.2
      simp only [Bool.false_eq_true, if_false, if_true]
      exact ⟨h1.1, this.2.1, this.2.2.1⟩
  · unfold c0 at h0
    simp only [Bool.and_eq_true, decide_eq_true_eq] at h0
    have := has_ok h0.2
    simp only [if_true]
    exact ⟨h0.1, this.2.1, this.2.2.1⟩
def dueB (b : Blk) (p : Ld) : Bool := !decide (oKS b = 1 ∧ oP b = p)
def mdPU (l : List Blk) : Ld := spP (fdG l)
def d0 (l : List Blk) : Bool := dueB (s0 l) (mdPU l)
def d1 (l : List Blk) : Bool := dueB (s1 l) (mdPU l)
set_option maxRecDepth 100000
theorem at_copyS {ops : Array Oper} {rest : List Oper} {o : Oper} {a : Act} {w : World} {Q : Exit → Act → World → Prop} (hgd : o.guard = none) (d s : Operand)
    (ho : o.op = .call { callee := .builtin .copy, args := #[d, s], argTypes := #[105, 9] }) (g dLen dCap : Nat)
    (hd : a.eval d = .slice (some ⟨g, 0, none⟩) dLen dCap) (t : ByteArray) (hs : a.eval s = .string t) (l : List UInt8) (hR : Row w g l) (h1 : t.size ≤ dLen) (h2 : t.size ≤ l.length)
    (h : ∀ w', Row w' g (splice l 0 t.data.toList) → Stp (fun x => x = g) w w' → wpList Tryz.prog ops Q rest (a.put o.dst (goInt t.size)) w') : wpList Tryz.prog ops Q (o :: rest) a w := by
  refine wpList_plain hgd fun K hK => ?_
  obtain ⟨ty, hg⟩ := hR
  have hrun := Lib.run_copy_row_string (P := Tryz.prog) w 105 9 o.type 5 g 0 dLen dCap t (cells l).toArray ty (by kernel_rfl) (by kernel_rfl) hg h1 (by simpa using h2)
  have e : (List.take 0 (cells l).toArray.toList ++ Lib.byteCells t.data.toList ++ List.drop (0 + t.size) (cells l).toArray.toList) = cells (splice l 0 t.data.toList) := by
    unfold splice
    rw [show t.data.toList.length = t.size from rfl]
    simp only [cells, List.map_append, List.map_take, List.map_drop]
    rfl
  rw [e] at hrun
  unfold Oper.wp
  simp only [execOp, ho, resolve, invoke, builtin]
  simp [hd, hs, hrun, Result.andThen]
  exact hK _ _ (h _ (Row.setRow ⟨ty, hg⟩ _) (stp_setRow _ _ _))
set_option maxRecDepth 100000
theorem sputAt_4 (g x : Nat) (l : List UInt8) (w : World) (hR : Row w g l) (hl : l.length = 54) (hx : x < 65536) :
    Calls Tryz.prog 148 #[.pointer (some ⟨g, 0, none⟩), .int .i64 4, .int .i64 (x : Int)] w fun e w' => e = .returned (.tuple #[]) ∧ Row w' g (splice l 4 (u2 x)) ∧ Stp (fun y => y = g) w w' := by
  have hW : IntKind.u16.wrap (x : Int) = (x : Int) := by rw [IntKind.wrap_u16]; omega
  go_enter Tryz.func148, Tryz.ntmps148
  go_wp2_with (go_at_call 130; refine (put16_any (x : Int) w (by omega) (by omega)).mono ?_; rintro e w1 ⟨rfl, b1⟩)
  have r2 := Row.made w1 (u2 x) 229
  rw [cells_u2 hx] at r2
  have b2 : Below w.heap.size w (w1.alloc (Obj.cells #[Value.int IntKind.u8 ((x : Int) % 256), Value.int IntKind.u8 ((x : Int) / 256)] 229)) := b1.alloc b1.size _
  have hG : g < w1.heap.size := Nat.lt_of_lt_of_le hR.lt b1.size
  have hR2 := hR.later b2
  generalize w1.alloc (Obj.cells #[Value.int IntKind.u8 ((x : Int) % 256), Value.int IntKind.u8 ((x : Int) / 256)] 229) = w2 at *
  generalize w1.heap.size = g2 at *
  go_region_law (refine step_copyR rfl (.tmp 13) (.tmp 14) rfl g 4 50 50 g2 2 2 (by simp [Act.eval, Act.put]) (by simp [Act.eval, Act.put]) l (u2 x) (hR2.later (by go_grown)) (r2.later (by go_grown)) (by omega) (by omega) (Nat.le_refl 2) ?_; intro w3 r3 s3)
  go_wp2
  go_returns
  exact ⟨rfl, r3, (Stp.of_below b2 _).drew.next s3 (fun _ h => .inl h)⟩
theorem sputAt_6 (g x : Nat) (l : List UInt8) (w : World) (hR : Row w g l) (hl : l.length = 54) (hx : x < 65536) :
    Calls Tryz.prog 148 #[.pointer (some ⟨g, 0, none⟩), .int .i64 6, .int .i64 (x : Int)] w fun e w' => e = .returned (.tuple #[]) ∧ Row w' g (splice l 6 (u2 x)) ∧ Stp (fun y => y = g) w w' := by
  have hW : IntKind.u16.wrap (x : Int) = (x : Int) := by rw [IntKind.wrap_u16]; omega
  go_enter Tryz.func148, Tryz.ntmps148
  go_wp2_with (go_at_call 130; refine (put16_any (x : Int) w (by omega) (by omega)).mono ?_; rintro e w1 ⟨rfl, b1⟩)
  have r2 := Row.made w1 (u2 x) 229
  rw [cells_u2 hx] at r2
  have b2 : Below w.heap.size w (w1.alloc (Obj.cells #[Value.int IntKind.u8 ((x : Int) % 256), Value.int IntKind.u8 ((x : Int) / 256)] 229)) := b1.alloc b1.size _
  have hG : g < w1.heap.size := Nat.lt_of_lt_of_le hR.lt b1.size
  have hR2 := hR.later b2
  generalize w1.alloc (Obj.cells #[Value.int IntKind.u8 ((x : Int) % 256), Value.int IntKind.u8 ((x : Int) / 256)] 229) = w2 at *
  generalize w1.heap.size = g2 at *
  go_region_law (refine step_copyR rfl (.tmp 13) (.tmp 14) rfl g 6 48 48 g2 2 2 (by simp [Act.eval, Act.put]) (by simp [Act.eval, Act.put]) l (u2 x) (hR2.later (by go_grown)) (r2.later (by go_grown)) (by omega) (by omega) (Nat.le_refl 2) ?_; intro w3 r3 s3)
  go_wp2
  go_returns
  exact ⟨rfl, r3, (Stp.of_below b2 _).drew.next s3 (fun _ h => .inl h)⟩
theorem sputAt_8 (g x : Nat) (l : List UInt8) (w : World) (hR : Row w g l) (hl : l.length = 54) (hx : x < 65536) :
    Calls Tryz.prog 148 #[.pointer (some ⟨g, 0, none⟩), .int .i64 8, .int .i64 (x : Int)] w fun e w' => e = .returned (.tuple #[]) ∧ Row w' g (splice l 8 (u2 x)) ∧ Stp (fun y => y = g) w w' := by
  have hW : IntKind.u16.wrap (x : Int) = (x : Int) := by rw [IntKind.wrap_u16]; omega
  go_enter Tryz.func148, Tryz.ntmps148
  go_wp2_with (go_at_call 130; refine (put16_any (x : Int) w (by omega) (by omega)).mono ?_; rintro e w1 ⟨rfl, b1⟩)
  have r2 := Row.made w1 (u2 x) 229
  rw [cells_u2 hx] at r2
  have b2 : Below w.heap.size w (w1.alloc (Obj.cells #[Value.int IntKind.u8 ((x : Int) % 256), Value.int IntKind.u8 ((x : Int) / 256)] 229)) := b1.alloc b1.size _
  have hG : g < w1.heap.size := Nat.lt_of_lt_of_le hR.lt b1.size
  have hR2 := hR.later b2
  generalize w1.alloc (Obj.cells #[Value.int IntKind.u8 ((x : Int) % 256), Value.int IntKind.u8 ((x : Int) / 256)] 229) = w2 at *
  generalize w1.heap.size = g2 at *
  go_region_law (refine step_copyR rfl (.tmp 13) (.tmp 14) rfl g 8 46 46 g2 2 2 (by simp [Act.eval, Act.put]) (by simp [Act.eval, Act.put]) l (u2 x) (hR2.later (by go_grown)) (r2.later (by go_grown)) (by omega) (by omega) (Nat.le_refl 2) ?_; intro w3 r3 s3)
  go_wp2
  go_returns
  exact ⟨rfl, r3, (Stp.of_below b2 _).drew.next s3 (fun _ h => .inl h)⟩
theorem le2_ints (l : List UInt8) (k : Nat) : le2 (ints l) k = ((get2 l k : Nat) : Int) := by
  unfold le2 get2
  rw [ints_getD, ints_getD]; omega
theorem get16_at (g : Nat) (l : List UInt8) (k : Nat) (w : World) (h : Row w g l) (hl : l.length = 54) (hk : k + 2 ≤ 54) :
    Calls Tryz.prog 92 #[.slice (some ⟨g, 0, none⟩) 54 54, .int .i64 (k : Int)] w fun e w' => e = .returned (.tuple #[.int .u16 (get2 l k : Nat), .int .i64 0]) ∧ w = w' := by
  have hb := h.bs0 54 54 (by omega) (Nat.le_refl _) (by decide)
  rw [List.take_of_length_le (by omega)] at hb
  rw [← le2_ints]
  exact get16_ok _ 54 54 _ k w hb hk
theorem rget16_at (g : Nat) (l : List UInt8) (k : Nat) (w : World) (h : Row w g l) (hl : l.length = 54) (hk : k + 2 ≤ 54) :
    Calls Tryz.prog 137 #[.slice (some ⟨g, 0, none⟩) 54 54, .int .i64 (k : Int)] w fun e w' => e = .returned (.tuple #[.int .u16 (get2 l k : Nat), .int .i64 0]) ∧ w = w' := by
  have hb := h.bs0 54 54 (by omega) (Nat.le_refl _) (by decide)
  rw [List.take_of_length_le (by omega)] at hb
  rw [← le2_ints]
  exact rget16_ok _ 54 54 _ k w hb hk
theorem getAt_any (p : Ld) (k : Nat) (w : World) (hk : k + 2 ≤ 54) :
    Calls Tryz.prog 134 #[.agg p.cs.toArray, .int .i64 (k : Int)] w fun e w' => e = .returned (.int .i64 (get2 p.l k : Nat)) ∧ Below w.heap.size w w' := by
  have hp := p.len
  have hx := get2_lt p.l k
  go_enter Tryz.func134, Tryz.ntmps134
  go_wp2_with (first
    | (refine at_box 62 54 arrL (by rfl) _ (by rfl) p.l (by rfl) hp ?_; intro g1 w1 a1 z1 r1 b1)
    | (go_at_call 92; refine (get16_at g1 p.l k _ r1 hp hk).mono ?_; rintro e w2 ⟨rfl, rfl⟩))
  go_returns
  exact ⟨rfl, b1⟩
set_option maxRecDepth 100000
theorem lay_ld (g i d : Nat) : splice (splice (splice (splice (List.replicate 54 0) 0 [83, 67, 85, 80]) 4 (u2 g)) 6 (u2 i)) 8 (u2 d) = ldL ⟨(g : Int), (i : Int), (d : Int)⟩ := rfl
set_option maxRecDepth 100000 in
set_option maxHeartbeats 1000000 in
theorem sput_no (s : Gm) (w : World) (h : ¬ s.ok) :
    Calls Tryz.prog 135 #[gv s] w fun e w' => e = .returned (.tuple #[.agg Ld.zero.cs.toArray, .int .i64 2]) ∧ Below w.heap.size w w' := by
  have hc := check_anyG s
  rw [show s.err = 2 from if_neg h] at hc
  go_enter Tryz.func135, Tryz.ntmps135
  go_wp2_with (first
    | (refine at_boxG (by rfl) _ (by rfl) s (by rfl) ?_; intro g1 w1 a1 z1 r1 b1)
    | (refine at_new 62 54 arrL (by rfl) (by rfl) ?_; intro gr w2 a2 z2 r2 b2)
    | (refine at_getG (by rfl) _ (by rfl) g1 (by rfl) s (r1.later b2) ?_)
    | (go_at_call 109; refine (hc _).mono ?_; rintro e w3 ⟨rfl, b3⟩)
    | (refine at_bldL (by rfl) (by rfl) ?_)
    | (refine at_put 62 54 arrL (by rfl) _ _ (by rfl) gr (by rfl) Ld.zero.l (by rfl) Ld.zero.len _ (r2.later b3) (by simp) ?_; intro w9 r9 s9))
  have S2 : Stp (fun x => w.heap.size ≤ x) w w3 := Stp.of_below (bnext (bnext b1 b2 (Nat.le_refl _)) b3 (Nat.le_refl _)) _
  have hgr : w.heap.size ≤ gr := by have := b1.size; omega
  refine bodyPost_ret (retAt arrL Tryz.results135 rfl rfl r9 Ld.zero.len) rfl ⟨rfl, (S2.next s9 (fun x hx => .inl (by subst hx; exact hgr))).below (Nat.le_refl _) (fun _ h => h)⟩
set_option maxRecDepth 100000 in
set_option maxHeartbeats 2000000 in
theorem sput_yes (g i d : Nat) (w : World) (h : Gm.ok ⟨(g : Int), (i : Int), (d : Int)⟩) :
    Calls Tryz.prog 135 #[.agg #[.int .i64 (g : Int), .int .i64 (i : Int), .int .i64 (d : Int)]] w fun e w' => e = .returned (.tuple #[.agg (ldP ⟨(g : Int), (i : Int), (d : Int)⟩).cs.toArray, .int .i64 0]) ∧ Below w.heap.size w w' := by
  have hc := check_anyG ⟨(g : Int), (i : Int), (d : Int)⟩
  rw [show Gm.err ⟨(g : Int), (i : Int), (d : Int)⟩ = 0 from if_pos h] at hc
  have hg : g < 65536 := by unfold Gm.ok at h; simp only at h; omega
  have hi : i < 65536 := by unfold Gm.ok at h; simp only at h; omega
  have hd : d < 65536 := by unfold Gm.ok at h; simp only at h; omega
  clear h
  have hlp := (ldP ⟨(g : Int), (i : Int), (d : Int)⟩).len
  have hld : Hid (_ = _) := lay_ld g i d
  have tok : True := trivial
  have l5 : (splice (List.replicate 54 (0 : UInt8)) 0 [83, 67, 85, 80]).length = 54 := rfl
  have l6 : (splice (splice (List.replicate 54 (0 : UInt8)) 0 [83, 67, 85, 80]) 4 (u2 g)).length = 54 := rfl
  have l7 : (splice (splice (splice (List.replicate 54 (0 : UInt8)) 0 [83, 67, 85, 80]) 4 (u2 g)) 6 (u2 i)).length = 54 := rfl
  go_enter Tryz.func135, Tryz.ntmps135
  go_wp2_with (first
    | (refine at_boxG (by rfl) _ (by rfl) ⟨(g : Int), (i : Int), (d : Int)⟩ (by rfl) ?_; intro g1 w1 a1 z1 r1 b1)
    | (have _t := tok; refine at_new 62 54 arrL (by rfl) (by rfl) ?_; intro gr w2 a2 z2 r2 b2; clear _t tok)
    | (refine at_getG (by rfl) _ (by rfl) g1 (by rfl) ⟨(g : Int), (i : Int), (d : Int)⟩ (r1.later b2) ?_)
    | (go_at_call 109; refine (hc _).mono ?_; rintro e w3 ⟨rfl, b3⟩)
    | (refine at_new 62 54 arrL (by rfl) (by rfl) ?_; intro gp w4 a4 z4 r4 b4
       have q4 : GR w4 g1 ⟨(g : Int), (i : Int), (d : Int)⟩ := ((r1.later b2).later b3).later b4
       have o4 : Row w4 gr (List.replicate 54 0) := (r2.later b3).later b4
       have S4 : Stp (fun x => w.heap.size ≤ x) w w4 := Stp.of_below (bnext (bnext (bnext b1 b2 (Nat.le_refl _)) b3 (Nat.le_refl _)) b4 (Nat.le_refl _)) _
       have n1 : g1 ≠ gp := by have := b2.size; have := b3.size; omega
       have n2 : gr ≠ gp := by have := b3.size; omega
       have hgp : w.heap.size ≤ gp := by have := b1.size; have := b2.size; have := b3.size; omega
       have hgr : w.heap.size ≤ gr := by have := b1.size; omega
       clear a1 z1 a2 z2 a4 z4 r1 r2 b1 b2 b3 b4)
    | (refine at_copyS (by rfl) _ _ (by rfl) gp 54 54 (by rfl) ⟨#[83, 67, 85, 80]⟩ (by rfl) (List.replicate 54 0) r4 (by decide) (by decide) ?_
       intro w5 r5 s5
       have q5 := q4.step s5 n1
       have c50 := q5.c0
       have o5 := o4.step s5 n2
       have S5 := S4.next s5 (fun x hx => .inl (by subst hx; exact hgp))
       clear r4 q4 o4 S4 s5)
    | (go_at_call 148; refine (sputAt_4 gp g _ _ r5 l5 hg).mono ?_; rintro e w6 ⟨rfl, r6, s6⟩
       have q6 := q5.step s6 n1
       have c61 := q6.c1
       have o6 := o5.step s6 n2
       have S6 := S5.next s6 (fun x hx => .inl (by subst hx; exact hgp))
       clear r5 q5 o5 S5 s6 c50)
    | (go_at_call 148; refine (sputAt_6 gp i _ _ r6 l6 hi).mono ?_; rintro e w7 ⟨rfl, r7, s7⟩
       have q7 := q6.step s7 n1
       have c72 := q7.c2
       have o7 := o6.step s7 n2
       have S7 := S6.next s7 (fun x hx => .inl (by subst hx; exact hgp))
       clear r6 q6 o6 S6 s7 c61)
    | (go_at_call 148; refine (sputAt_8 gp d _ _ r7 l7 hd).mono ?_; rintro e w8 ⟨rfl, r8, s8⟩
       rw [hld.out] at r8
       have o8 := o7.step s8 n2
       have S8 := S7.next s8 (fun x hx => .inl (by subst hx; exact hgp))
       clear r7 q7 o7 S7 s8 c72)
    | (refine at_get 62 54 arrL (by rfl) _ (by rfl) gp (by rfl) _ r8 hlp ?_)
    | (refine at_put 62 54 arrL (by rfl) _ _ (by rfl) gr (by rfl) _ (by rfl) hlp _ o8 (by simp) ?_; intro w9 r9 s9))
  refine bodyPost_ret (retAt arrL Tryz.results135 rfl rfl r9 hlp) rfl ⟨rfl, (S8.next s9 (fun x hx => .inl (by subst hx; exact hgr))).below (Nat.le_refl _) (fun _ h => h)⟩
theorem gm_nat {s : Gm} (h : s.ok) : ∃ g i d : Nat, s = ⟨(g : Int), (i : Int), (d : Int)⟩ := by
  unfold Gm.ok at h
  exact ⟨s.g.toNat, s.i.toNat, s.d.toNat, Gm.ext3 (by show s.g = ((s.g.toNat : Nat) : Int); omega) (by show s.i = ((s.i.toNat : Nat) : Int); omega) (by show s.d = ((s.d.toNat : Nat) : Int); omega)⟩
theorem sput_any (s : Gm) (w : World) :
    Calls Tryz.prog 135 #[gv s] w fun e w' => e = .returned (.tuple #[.agg (spP s).cs.toArray, .int .i64 s.err]) ∧ Below w.heap.size w w' := by
  by_cases h : s.ok
  · rw [show s.err = 0 from if_pos h, show spP s = ldP s from if_pos h]
    obtain ⟨g, i, d, rfl⟩ := gm_nat h
    exact sput_yes g i d w h
  · rw [show s.err = 2 from if_neg h, show spP s = Ld.zero from if_neg h]
    exact sput_no s w h
set_option maxRecDepth 100000
def mixN (l : List UInt8) (k : Nat) : List UInt8 := l.take k ++ List.replicate (54 - k) 0
theorem mixN_len {l : List UInt8} {k : Nat} (h : k ≤ l.length) (hk : k ≤ 54) : (mixN l k).length = 54 := by unfold mixN; simp; omega
theorem mixN_set {l : List UInt8} {k : Nat} (h : k < l.length) (hk : k < 54) : (mixN l k).set k (l.getD k 0) = mixN l (k + 1) := by
  have e : l.take (k + 1) = l.take k ++ [l.getD k 0] := by rw [List.take_add_one, List.getD_eq_getElem?_getD, List.getElem?_eq_getElem (by omega)]; rfl
  unfold mixN
  rw [List.set_append_right _ _ (by rw [List.length_take]; omega), List.length_take, Nat.min_eq_left (by omega), Nat.sub_self, show 54 - k = (54 - (k + 1)) + 1 by omega, List.replicate_succ, List.set_cons_zero, e, List.append_assoc]; rfl
theorem rput16_row (x : Nat) (w : World) (h : x < 65536) :
    Calls Tryz.prog 57 #[.int .u16 (x : Int)] w fun e w' => ∃ g, e = .returned (.slice (some ⟨g, 0, none⟩) 2 2) ∧ Row w' g (u2 x) ∧ Below w.heap.size w w' := by
  refine (rput16_any (x : Int) w (by omega) (by omega)).mono ?_
  rintro e w' ⟨rfl, rfl⟩
  refine ⟨_, rfl, ?_, (Below.refl _ _).alloc (Nat.le_refl _) _⟩
  have := Row.made w (u2 x) 5
  rwa [cells_u2 h] at this
set_option maxRecDepth 100000 in
set_option maxHeartbeats 1000000 in
theorem rsput_no (s : Gm) (w : World) (h : ¬ s.ok) :
    Calls Tryz.prog 31 #[gv s] w fun e w' => e = .returned (.tuple #[.agg Ld.zero.cs.toArray, .int .i64 2]) ∧ Below w.heap.size w w' := by
  have hc := rcheck_anyG s
  rw [show s.err = 2 from if_neg h] at hc
  go_enter Tryz.func31, Tryz.ntmps31
  go_wp2_with (first
    | (refine at_boxG (by rfl) _ (by rfl) s (by rfl) ?_; intro g1 w1 a1 z1 r1 b1)
    | (refine at_new 62 54 arrL (by rfl) (by rfl) ?_; intro gr w2 a2 z2 r2 b2)
    | (refine at_getG (by rfl) _ (by rfl) g1 (by rfl) s (r1.later b2) ?_)
    | (go_at_call 56; refine (hc _).mono ?_; rintro e w3 ⟨rfl, b3⟩)
    | (refine at_bldL (by rfl) (by rfl) ?_)
    | (refine at_put 62 54 arrL (by rfl) _ _ (by rfl) gr (by rfl) Ld.zero.l (by rfl) Ld.zero.len _ (r2.later b3) (by simp) ?_; intro w9 r9 s9))
  have S2 : Stp (fun x => w.heap.size ≤ x) w w3 := Stp.of_below (bnext (bnext b1 b2 (Nat.le_refl _)) b3 (Nat.le_refl _)) _
  have hgr : w.heap.size ≤ gr := by have := b1.size; omega
  refine bodyPost_ret (retAt arrL Tryz.results31 rfl rfl r9 Ld.zero.len) rfl ⟨rfl, (S2.next s9 (fun x hx => .inl (by subst hx; exact hgr))).below (Nat.le_refl _) (fun _ h => h)⟩
set_option maxRecDepth 100000 in
set_option maxHeartbeats 4000000 in
theorem rsput_yes (g i d : Nat) (w : World) (h : Gm.ok ⟨(g : Int), (i : Int), (d : Int)⟩) :
    Calls Tryz.prog 31 #[.agg #[.int .i64 (g : Int), .int .i64 (i : Int), .int .i64 (d : Int)]] w fun e w' => e = .returned (.tuple #[.agg (ldP ⟨(g : Int), (i : Int), (d : Int)⟩).cs.toArray, .int .i64 0]) ∧ Below w.heap.size w w' := by
  have hc := rcheck_anyG ⟨(g : Int), (i : Int), (d : Int)⟩
  rw [show Gm.err ⟨(g : Int), (i : Int), (d : Int)⟩ = 0 from if_pos h] at hc
  have hg : g < 65536 := by unfold Gm.ok at h; simp only at h; omega
  have hi : i < 65536 := by unfold Gm.ok at h; simp only at h; omega
  have hd : d < 65536 := by unfold Gm.ok at h; simp only at h; omega
  clear h
  have hWg : IntKind.u16.wrap (g : Int) = (g : Int) := by rw [IntKind.wrap_u16]; omega
  have hWi : IntKind.u16.wrap (i : Int) = (i : Int) := by rw [IntKind.wrap_u16]; omega
  have hWd : IntKind.u16.wrap (d : Int) = (d : Int) := by rw [IntKind.wrap_u16]; omega
  have hlp := (ldP ⟨(g : Int), (i : Int), (d : Int)⟩).len
  go_enter Tryz.func31, Tryz.ntmps31
  go_wp2_with (first
    | (refine at_boxG (by rfl) _ (by rfl) ⟨(g : Int), (i : Int), (d : Int)⟩ (by rfl) ?_; intro g1 w1 a1 z1 r1 b1)
    | (refine at_new 62 54 arrL (by rfl) (by rfl) ?_; intro gr w2 a2 z2 r2 b2)
    | (refine at_getG (by rfl) _ (by rfl) g1 (by rfl) ⟨(g : Int), (i : Int), (d : Int)⟩ (r1.later b2) ?_)
    | (go_at_call 56; refine (hc _).mono ?_; rintro e w3 ⟨rfl, b3⟩))
  have q3 : GR w3 g1 ⟨(g : Int), (i : Int), (d : Int)⟩ := (r1.later b2).later b3
  have p3 : Row w3 gr (List.replicate 54 0) := r2.later b3
  have B3 : Below w.heap.size w w3 := bnext (bnext b1 b2 (Nat.le_refl _)) b3 (Nat.le_refl _)
  have l1 : g1 < w3.heap.size := q3.lt
  have l2 : gr < w3.heap.size := p3.lt
  have hgr : w.heap.size ≤ gr := by have := b1.size; omega
  clear a1 z1 a2 z2 r1 r2 b1 b2 b3 hc
  clear w1 w2
  have o0 : Own w3.heap.size _ w3.heap.size 4 [83, 67, 85, 80] := Own.of w3 [83, 67, 85, 80] [.int .u8 83, .int .u8 67, .int .u8 85, .int .u8 80] rfl (Nat.le_refl _) (by simp)
  have S0 : Stp (fun x => w3.heap.size ≤ x) w3 _ := Stp.of_alloc w3 (.cells #[.int .u8 83, .int .u8 67, .int .u8 85, .int .u8 80] 5) _
  have gq : ∀ u, Stp (fun x => w3.heap.size ≤ x) w3 u → GR u g1 ⟨(g : Int), (i : Int), (d : Int)⟩ := fun u hu => q3.step hu (by omega)
  generalize w3.alloc (.cells #[.int .u8 83, .int .u8 67, .int .u8 85, .int .u8 80] 5) = W at *
  have oc := o0.later ((Below.refl _ W).drew)
  clear o0
  refine wp_region_held_drew (S := fun u => Stp (fun x => w3.heap.size ≤ x) w3 u) (by kernel_rfl) S0.drew (fun hHeld => ?_)
  clear S0
  refine tl 0 (.slice (some ⟨w3.heap.size, 0, none⟩) 4 4) rfl ?_
  try simp only [z]
  refine tl 1 (.pointer (some ⟨g1, 0, none⟩)) rfl ?_
  try simp only [z]
  refine tl 2 (.int .i64 (g : Int)) rfl ?_ (fun u hu => by (have c := (gq u hu).c0; go_simp))
  try simp only [z]
  refine tl 3 (.int .u16 (g : Int)) rfl ?_
  try simp only [z]
  refine tl 6 (.pointer (some ⟨g1, 1, none⟩)) rfl ?_
  try simp only [z]
  refine tl 7 (.int .i64 (i : Int)) rfl ?_ (fun u hu => by (have c := (gq u hu).c1; go_simp))
  try simp only [z]
  refine tl 8 (.int .u16 (i : Int)) rfl ?_
  try simp only [z]
  refine tl 11 (.pointer (some ⟨g1, 2, none⟩)) rfl ?_
  try simp only [z]
  refine tl 12 (.int .i64 (d : Int)) rfl ?_ (fun u hu => by (have c := (gq u hu).c2; go_simp))
  try simp only [z]
  refine tl 13 (.int .u16 (d : Int)) rfl ?_
  try simp only [z]
  refine rd 4 rfl (fun K hK => ?_)
  go_simp
  refine (rput16_row g _ hg).mono ?_
  rintro e v4 ⟨n4, rfl, r4, b4⟩
  try go_wp2_with fail
  have oc := oc.later b4
  refine hK.out _ _ (hHeld.next (Stp.of_below b4 (fun _ => False)) (fun _ h => h.elim)) (fun hHeld => ?_)
  clear hK K
  try simp only [z]
  refine rd 5 rfl (fun K hK => ?_)
  refine step_app rfl (.tmp 15) (.tmp 19) rfl 4 (by rfl) oc rfl ⟨n4, 0, none⟩ 2 2 (u2 g) (by rfl) rfl 6 rfl (fun j u hj => by rw [Addr.add_mid]; exact r4.range j u hj) (by simp [u2]) hHeld.size ?_
  intro g5 c5 w5 o5 s5
  refine hK.out _ _ (hHeld.next s5 (fun _ h => .inl h)) (fun hHeld => ?_)
  clear hK K
  try simp only [z]
  refine rd 9 rfl (fun K hK => ?_)
  go_simp
  refine (rput16_row i _ hi).mono ?_
  rintro e v9 ⟨n9, rfl, r9, b9⟩
  try go_wp2_with fail
  have o9 := o5.later b9
  refine hK.out _ _ (hHeld.next (Stp.of_below b9 (fun _ => False)) (fun _ h => h.elim)) (fun hHeld => ?_)
  clear hK K
  try simp only [z]
  refine rd 10 rfl (fun K hK => ?_)
  refine step_app rfl (.tmp 20) (.tmp 24) rfl 6 (by rfl) o9 rfl ⟨n9, 0, none⟩ 2 2 (u2 i) (by rfl) rfl 8 rfl (fun j u hj => by rw [Addr.add_mid]; exact r9.range j u hj) (by simp [u2]) hHeld.size ?_
  intro g10 c10 w10 o10 s10
  refine hK.out _ _ (hHeld.next s10 (fun _ h => .inl h)) (fun hHeld => ?_)
  clear hK K
  try simp only [z]
  refine rd 14 rfl (fun K hK => ?_)
  go_simp
  refine (rput16_row d _ hd).mono ?_
  rintro e v14 ⟨n14, rfl, r14, b14⟩
  try go_wp2_with fail
  have o14 := o10.later b14
  refine hK.out _ _ (hHeld.next (Stp.of_below b14 (fun _ => False)) (fun _ h => h.elim)) (fun hHeld => ?_)
  clear hK K
  try simp only [z]
  refine rd 15 rfl (fun K hK => ?_)
  refine step_app rfl (.tmp 25) (.tmp 29) rfl 8 (by rfl) o14 rfl ⟨n14, 0, none⟩ 2 2 (u2 d) (by rfl) rfl 10 rfl (fun j u hj => by rw [Addr.add_mid]; exact r14.range j u hj) (by simp [u2]) hHeld.size ?_
  intro g15 c15 w15 o15 s15
  refine hK.out _ _ (hHeld.next s15 (fun _ h => .inl h)) (fun hHeld => ?_)
  clear hK K
  try simp only [z]
  refine tl 16 (.slice (some ⟨g15, 0, none⟩) 10 c15) rfl ?_
  try simp only [z]
  refine wpAnyH_done (by kernel_rfl) ?_ _
  clear oc o5 o9 o10 o14 r4 r9 r14 b4 b9 b14 s5 s10 s15
  have hD : ([83, 67, 85, 80] ++ u2 g ++ u2 i ++ u2 d).length = 10 := rfl
  have hM : Hid (mixN ([83, 67, 85, 80] ++ u2 g ++ u2 i ++ u2 d) 10 = (ldP ⟨(g : Int), (i : Int), (d : Int)⟩).l) := rfl
  generalize [83, 67, 85, 80] ++ u2 g ++ u2 i ++ u2 d = D at *
  have m15 := o15.lt
  have p15 : Row w15 gr (List.replicate 54 0) := p3.step hHeld (by omega)
  have S15 : Stp (fun x => w.heap.size ≤ x) w w15 := (Stp.of_below B3 _).next hHeld (fun x hx => .inl (by have := B3.size; omega))
  have T15 := hHeld.size
  clear hHeld gq q3 p3 B3
  go_wp2_with (first
    | (refine at_bldL (by rfl) (by rfl) ?_)
    | (refine at_new 62 54 arrL (by rfl) (by rfl) ?_; intro gp w4 a4 z4 r4 b4)
    | (refine at_put 62 54 arrL (by rfl) _ _ (by rfl) gp (by rfl) Ld.zero.l (by rfl) Ld.zero.len _ r4 (by simp) ?_; intro w5 r5 s5))
  have u5 : Own _ w5 g15 c15 D := (o15.later b4).step s5 (by omega)
  have q5 : Row w5 gr (List.replicate 54 0) := ((p15.later b4).step s5 (by omega))
  have S5 : Stp (fun x => w.heap.size ≤ x) w w5 := (S15.next (Stp.of_below b4 (fun _ => False)) (fun _ h => h.elim)).next s5 (fun x hx => .inl (by subst hx; have := S15.size; omega))
  have hgp : w.heap.size ≤ gp := by have := S15.size; omega
  have n1 : g15 ≠ gp := by omega
  have n2 : gr ≠ gp := by omega
  have m0 : Row w5 gp (mixN D 0) := r5
  clear o15 p15 S15 a4 z4 r4 b4 r5 s5
  go_loopw [7] (fun i wr => ∃ k : Nat, k ≤ 10 ∧ i = .int .i64 k ∧ Row wr gp (mixN D k) ∧ Stp (fun x => x = gp) w5 wr) (fun i _ => 10 - (intOf i).toNat)
  case atStart => exact ⟨0, Nat.zero_le _, rfl, m0, Stp.refl _ _⟩
  case round =>
    obtain ⟨k, hk4, rfl, mk, sk⟩ := hrel
    by_cases hlt : k < 10
    · have c1 : _ = some (Value.int .u8 _) := (u5.step sk n1).cell k (by omega)
      have c2 := mk.cell k (by rw [mixN_len (by omega) (by omega)]; omega)
      have f2 := mk.frozen k
      have mk' := mk.set k (D.getD k 0)
      rw [mixN_set (by omega) (by omega)] at mk'
      generalize hv : (((D.getD k 0).toNat : Nat) : Int) = v at *
      clear hv
      go_wp2_with fail
      go_roundw
      case rel => exact ⟨k + 1, by omega, by go_num, mk', sk.setCell (.inl rfl) _⟩
      case measure => simp [intOf]; omega
    · obtain rfl : k = 10 := by omega
      rw [hM.out] at mk
      have qk := q5.step sk n2
      have Sk := S5.next sk (fun x hx => .inl (by subst hx; exact hgp))
      go_wp2_with (first
        | (refine at_get 62 54 arrL (by rfl) _ (by rfl) gp (by rfl) _ mk hlp ?_)
        | (refine at_put 62 54 arrL (by rfl) _ _ (by rfl) gr (by rfl) (ldP ⟨(g : Int), (i : Int), (d : Int)⟩).l (by rfl) hlp _ qk (by simp) ?_; intro w9 r9 s9))
      refine bodyPost_ret (retAt arrL Tryz.results31 rfl rfl r9 hlp) rfl ⟨rfl, (Sk.next s9 (fun x hx => .inl (by subst hx; exact hgr))).below (Nat.le_refl _) (fun _ h => h)⟩
theorem rsput_any (s : Gm) (w : World) :
    Calls Tryz.prog 31 #[gv s] w fun e w' => e = .returned (.tuple #[.agg (spP s).cs.toArray, .int .i64 s.err]) ∧ Below w.heap.size w w' := by
  by_cases h : s.ok
  · rw [show s.err = 0 from if_pos h, show spP s = ldP s from if_pos h]
    obtain ⟨g, i, d, rfl⟩ := gm_nat h
    exact rsput_yes g i d w h
  · rw [show s.err = 2 from if_neg h, show spP s = Ld.zero from if_neg h]
    exact rsput_no s w h
end Go.Proofs.YtgdnhkdfcjpdiaaGreatDoor
