/-
  What Put of layer 10 returns, for every inode: no statement is proved here.
-/
import Derived.Test.YtbpnegklglaekaaDoorInoD
namespace Go.Proofs.YtbpnegklglaekaaDoor
open Go.ChangeShapes Go.WideShapes Go.ChangeAt Go.RowKit
set_option linter.unusedVariables false

def lay0 (x : Ino) : List UInt8 := ((List.replicate 18 0).set 0 x.k).set 1 x.n
def lay1 (x : Ino) : List UInt8 := splice (lay0 x) 2 (u4 x.s.toNat)
def lay2 (x : Ino) : List UInt8 := splice (lay1 x) 6 (lo2 x.d0.toNat)
def lay3 (x : Ino) : List UInt8 := splice (lay2 x) 8 (lo2 x.d1.toNat)
def lay4 (x : Ino) : List UInt8 := splice (lay3 x) 10 (lo2 x.d2.toNat)
def lay5 (x : Ino) : List UInt8 := splice (lay4 x) 12 (lo2 x.d3.toNat)
def lay6 (x : Ino) : List UInt8 := splice (lay5 x) 14 (lo2 x.p.toNat)
theorem lay7 (x : Ino) : splice (lay6 x) 16 (lo2 x.q.toNat) = iL x := rfl
theorem Cs.ino9 {w : World} {g : Nat} {x : Ino} (h : Cs w g x.cs) : w.cell? ⟨g, 0, none⟩ = some (.int .u8 (x.k.toNat : Int)) ∧ w.cell? ⟨g, 1, none⟩ = some (.int .u8 (x.n.toNat : Int)) ∧ w.cell? ⟨g, 2, none⟩ = some (.int .u32 (x.s.toNat : Int)) ∧ w.cell? ⟨g, 7, none⟩ = some (.int .u16 (x.p.toNat : Int)) ∧ w.cell? ⟨g, 8, none⟩ = some (.int .u16 (x.q.toNat : Int)) :=
  ⟨h.cell 0 _ rfl, h.cell 1 _ rfl, h.cell 2 _ rfl, h.cell 7 _ rfl, h.cell 8 _ rfl⟩
def dirs (x : Ino) : List Value := [.int .u16 (x.d0.toNat : Int), .int .u16 (x.d1.toNat : Int), .int .u16 (x.d2.toNat : Int), .int .u16 (x.d3.toNat : Int)]
set_option maxRecDepth 100000 in
set_option maxHeartbeats 2000000 in
theorem iput_any (x : Ino) (w : World) : Calls Tryd.prog 8 #[.agg x.cs.toArray] w fun e w' => e = .returned (.agg (cells (iL x)).toArray) ∧ Below w.heap.size w w' := by
  have t1 : True := trivial
  go_enter Tryd.func8, Tryd.ntmps8
  go_wp2_with (first
    | (refine at_boxI (by rfl) _ (by rfl) x (by rfl) ?_; intro g1 w1 a1 z1 r1 b1)
    | (have _t := t1; refine at_new 27 18 ar18 (by rfl) (by rfl) ?_; intro gr w2 a2 z2 r2 b2; clear _t t1)
    | (refine at_new 27 18 ar18 (by rfl) (by rfl) ?_; intro gb W a3 z3 r3 b3))
  have rx := (r1.later b2).later b3
  have rr := r2.later b3
  have B3 := bnext (bnext b1 b2 (Nat.le_refl _)) b3 (Nat.le_refl _)
  have hgr : w.heap.size ≤ gr := by have := b1.size; omega
  have hgb : w.heap.size ≤ gb := by have := b1.size; have := b2.size; omega
  have hxb : ¬ g1 = gb := by have := r1.lt; have := b2.size; omega
  have hrb : ¬ gr = gb := by omega
  clear r1 r2 a1 z1 a2 z2 a3 z3 b1 b2 b3
  refine wp_region_held_drew (S := fun u => Stp (fun y => y = gb) W u) (by kernel_rfl) (Stp.refl _ _).drew (fun hHeld => ?_)
  refine wpAnyH_take (i := 0) (oi := { dst := some 7, op := Op.fieldAddr 26 (Operand.tmp 1) 0, type := 0, pos := _, after := #[], guard := none }) (v := .pointer (some ⟨g1, 0, none⟩)) rfl (by kernel_rfl) (by kernel_rfl) (by kernel_rfl) (fun _ _ _ h => h) (Or.inl ⟨by rfl, ?_⟩) hHeld ?_
  · intro u hu
    go_simp
  try simp only [Act.put, List.setIfInBounds_toArray, List.set_cons_zero, List.set_cons_succ]
  refine wpAnyH_take (i := 1) (oi := { dst := some 8, op := Op.load 5 (Operand.tmp 7), type := 5, pos := _, after := #[{ on := 0, ground := Ground.data }], guard := none }) (v := .int .u8 (x.k.toNat : Int)) rfl (by kernel_rfl) (by kernel_rfl) (by kernel_rfl) (fun _ _ _ h => h) (Or.inl ⟨by rfl, ?_⟩) hHeld ?_
  · intro u hu
    (have y := (rx.step hu hxb).cell 0 _ rfl; go_simp)
  try simp only [Act.put, List.setIfInBounds_toArray, List.set_cons_zero, List.set_cons_succ]
  refine wpAnyH_take (i := 2) (oi := { dst := some 9, op := Op.fieldAddr 26 (Operand.tmp 1) 1, type := 0, pos := _, after := #[{ on := 5, ground := Ground.gcOnly Departure.lateStores }], guard := none }) (v := .pointer (some ⟨g1, 1, none⟩)) rfl (by kernel_rfl) (by kernel_rfl) (by kernel_rfl) (fun _ _ _ h => h) (Or.inl ⟨by rfl, ?_⟩) hHeld ?_
  · intro u hu
    go_simp
  try simp only [Act.put, List.setIfInBounds_toArray, List.set_cons_zero, List.set_cons_succ]
  refine wpAnyH_take (i := 3) (oi := { dst := some 10, op := Op.load 5 (Operand.tmp 9), type := 5, pos := _, after := #[{ on := 2, ground := Ground.data }, { on := 5, ground := Ground.gcOnly Departure.lateStores }], guard := none }) (v := .int .u8 (x.n.toNat : Int)) rfl (by kernel_rfl) (by kernel_rfl) (by kernel_rfl) (fun _ _ _ h => h) (Or.inl ⟨by rfl, ?_⟩) hHeld ?_
  · intro u hu
    (have y := (rx.step hu hxb).cell 1 _ rfl; go_simp)
  try simp only [Act.put, List.setIfInBounds_toArray, List.set_cons_zero, List.set_cons_succ]
  refine wpAnyH_take (i := 4) (oi := { dst := some 11, op := Op.indexAddr 27 (Operand.tmp 3) (Operand.const (Value.int IntKind.i64 0)), type := 0, pos := _, after := #[{ on := 0, ground := Ground.phase }, { on := 1, ground := Ground.phase }, { on := 2, ground := Ground.textOnly Departure.lateStores }, { on := 3, ground := Ground.textOnly Departure.lateStores }], guard := none }) (v := .pointer (some ⟨gb, 0, none⟩)) rfl (by kernel_rfl) (by kernel_rfl) (by kernel_rfl) (fun _ _ _ h => h) (Or.inl ⟨by rfl, ?_⟩) hHeld ?_
  · intro u hu
    go_simp
  try simp only [Act.put, List.setIfInBounds_toArray, List.set_cons_zero, List.set_cons_succ]
  refine wpAnyH_ready (rs := [5]) (by kernel_rfl) (by simp) ?_
  refine (AllReadyH.cons (o := { dst := none, op := Op.store 5 (Operand.tmp 11) (Operand.tmp 8), type := 0, pos := _, after := #[{ on := 4, ground := Ground.data }, { on := 1, ground := Ground.data }, { on := 0, ground := Ground.phase }, { on := 1, ground := Ground.phase }, { on := 2, ground := Ground.textOnly Departure.lateStores }, { on := 3, ground := Ground.textOnly Departure.lateStores }], guard := none }) rfl (fun K hK => ?_) AllReadyH.nil)
  refine step_byte rfl (.tmp 11) (.tmp 8) rfl gb 0 (by rfl) x.k (by rfl) (List.replicate 18 0) (r3.later (Below.refl _ _).drew) (by simp) ?_
  intro v5 y5 s5
  refine hK.out _ _ (hHeld.next s5 (fun _ h => .inl h)) (fun hHeld => ?_)
  clear hK K
  try simp only [Act.put]
  refine wpAnyH_take (i := 6) (oi := { dst := some 12, op := Op.indexAddr 27 (Operand.tmp 3) (Operand.const (Value.int IntKind.i64 1)), type := 0, pos := _, after := #[{ on := 0, ground := Ground.phase }, { on := 1, ground := Ground.phase }, { on := 2, ground := Ground.phase }, { on := 3, ground := Ground.phase }, { on := 4, ground := Ground.phase }, { on := 5, ground := Ground.phase }], guard := none }) (v := .pointer (some ⟨gb, 1, none⟩)) rfl (by kernel_rfl) (by kernel_rfl) (by kernel_rfl) (fun _ _ _ h => h) (Or.inl ⟨by rfl, ?_⟩) hHeld ?_
  · intro u hu
    go_simp
  try simp only [Act.put, List.setIfInBounds_toArray, List.set_cons_zero, List.set_cons_succ]
  refine wpAnyH_ready (rs := [7]) (by kernel_rfl) (by simp) ?_
  refine (AllReadyH.cons (o := { dst := none, op := Op.store 5 (Operand.tmp 12) (Operand.tmp 10), type := 0, pos := _, after := #[{ on := 6, ground := Ground.data }, { on := 3, ground := Ground.data }, { on := 5, ground := Ground.chain }, { on := 0, ground := Ground.phase }, { on := 1, ground := Ground.phase }, { on := 2, ground := Ground.phase }, { on := 3, ground := Ground.phase }, { on := 4, ground := Ground.phase }, { on := 5, ground := Ground.phase }], guard := none }) rfl (fun K hK => ?_) AllReadyH.nil)
  refine step_byte rfl (.tmp 12) (.tmp 10) rfl gb 1 (by rfl) x.n (by rfl) _ y5 (by simp) ?_
  intro v7 y7 s7
  refine hK.out _ _ (hHeld.next s7 (fun _ h => .inl h)) (fun hHeld => ?_)
  clear hK K
  try simp only [Act.put]
  refine wpAnyH_done (by kernel_rfl) ?_ _
  have rx7 := rx.step hHeld hxb
  have rr7 := rr.step hHeld hrb
  have S7 : Stp (fun y => w.heap.size ≤ y) w v7 := (Stp.of_below B3 _).next hHeld (fun y hy => .inl (by subst hy; exact hgb))
  clear rx rr B3 hHeld s5 s7 y5 r3
  obtain ⟨q0, q1, q2, q3, q4⟩ := rx7.ino9
  go_wp2_with (first
    | (go_at_call 24; refine (put32_w x.s _).mono ?_; rintro e w8 ⟨rfl, b8⟩)
    | (refine at_new 54 4 ar4 (by rfl) (by rfl) ?_; intro gn w9 a9 z9 r9 b9)
    | (refine at_put 54 4 ar4 (by rfl) _ _ (by rfl) gn (by rfl) (u4 x.s.toNat) (by rfl) rfl _ r9 (by simp) ?_; intro w10 r10 s10))
  have B9 := bnext b8 b9 (Nat.le_refl _)
  have hgn : v7.heap.size ≤ gn := by have := b8.size; omega
  have rx10 : Cs w10 g1 x.cs := (rx7.later B9).step s10 (by have := rx7.lt; omega)
  have rr10 : Row w10 gr (List.replicate 18 0) := (rr7.later B9).step s10 (by have := rr7.lt; omega)
  have y10 : Row w10 gb (lay0 x) := (y7.later B9).step s10 (by have := y7.lt; omega)
  have S10 : Stp (fun y => w.heap.size ≤ y) w w10 := (S7.next (Stp.of_below B9 (fun _ => False)) (fun _ h => h.elim)).next s10 (fun y hy => .inl (by subst hy; have := S7.size; omega))
  clear q0 q1 q2 q3 q4 rx7 rr7 y7 S7 B9 b8 b9 a9 z9 r9 s10 hgn
  simp only [Act.put, List.setIfInBounds_toArray, List.set_cons_zero, List.set_cons_succ]
  go_region_law (refine step_copyR rfl (.tmp 16) (.tmp 17) rfl gb 2 16 16 gn 4 4 (by simp [Act.eval, Act.put]) (by simp [Act.eval, Act.put]) (lay0 x) (u4 x.s.toNat) (y10.later (by go_grown)) (r10.later (by go_grown)) (by omega) (by exact (show 2 + 4 ≤ 18 by decide)) (Nat.le_refl 4) ?_; intro w11 y11 s11)
  have rx11 : Cs w11 g1 x.cs := (rx10.later (w' := w10.drew) (by go_grown)).step s11 hxb
  have rr11 : Row w11 gr (List.replicate 18 0) := (rr10.later (w' := w10.drew) (by go_grown)).step s11 hrb
  have S11 : Stp (fun y => w.heap.size ≤ y) w w11 := S10.drew.next s11 (fun y hy => .inl (by subst hy; exact hgb))
  have y11' : Row w11 gb (lay1 x) := y11
  clear rx10 rr10 y10 r10 S10 s11 y11
  go_wp2_with (first
    | (refine at_getP 24 4 rowD szD (by rfl) _ (by rfl) g1 3 (by rfl) x.cs rx11 (dirs x) rfl rfl ?_))
  refine wp_loop_rounds 5 ?_
  rw [rounds_succ]
  unfold dirs
  go_wp2_with (first
    | (refine at_idx0 (by rfl) _ _ (by rfl) _ _ _ _ (.int .u16 (x.d0.toNat : Int)) 0 (by rfl) (by rfl) (fun w => by kernel_rfl) ?_)
    | (go_at_call 25; refine (putPointer_any gb 6 x.d0 (lay1 x) _ y11' rfl (by omega)).mono ?_; rintro e w12 ⟨rfl, y12', s12⟩))
  have rx12 := rx11.step s12 hxb
  have rr12 := rr11.step s12 hrb
  have S12 := S11.next s12 (fun y hy => .inl (by subst hy; exact hgb))
  clear rx11 rr11 S11 s12 y11'
  rw [rounds_succ]
  go_wp2_with (first
    | (refine at_idx0 (by rfl) _ _ (by rfl) _ _ _ _ (.int .u16 (x.d1.toNat : Int)) 1 (by rfl) (by rfl) (fun w => by kernel_rfl) ?_)
    | (go_at_call 25; refine (putPointer_any gb 8 x.d1 (lay2 x) _ y12' rfl (by omega)).mono ?_; rintro e w13 ⟨rfl, y13', s13⟩))
  have rx13 := rx12.step s13 hxb
  have rr13 := rr12.step s13 hrb
  have S13 := S12.next s13 (fun y hy => .inl (by subst hy; exact hgb))
  clear rx12 rr12 S12 s13 y12'
  rw [rounds_succ]
  go_wp2_with (first
    | (refine at_idx0 (by rfl) _ _ (by rfl) _ _ _ _ (.int .u16 (x.d2.toNat : Int)) 2 (by rfl) (by rfl) (fun w => by kernel_rfl) ?_)
    | (go_at_call 25; refine (putPointer_any gb 10 x.d2 (lay3 x) _ y13' rfl (by omega)).mono ?_; rintro e w14 ⟨rfl, y14', s14⟩))
  have rx14 := rx13.step s14 hxb
  have rr14 := rr13.step s14 hrb
  have S14 := S13.next s14 (fun y hy => .inl (by subst hy; exact hgb))
  clear rx13 rr13 S13 s14 y13'
  rw [rounds_succ]
  go_wp2_with (first
    | (refine at_idx0 (by rfl) _ _ (by rfl) _ _ _ _ (.int .u16 (x.d3.toNat : Int)) 3 (by rfl) (by rfl) (fun w => by kernel_rfl) ?_)
    | (go_at_call 25; refine (putPointer_any gb 12 x.d3 (lay4 x) _ y14' rfl (by omega)).mono ?_; rintro e w15 ⟨rfl, y15', s15⟩))
  have rx15 := rx14.step s15 hxb
  have rr15 := rr14.step s15 hrb
  have S15 := S14.next s15 (fun y hy => .inl (by subst hy; exact hgb))
  clear rx14 rr14 S14 s15 y14'
  rw [rounds_succ]
  obtain ⟨_, _, _, q3, _⟩ := rx15.ino9
  have t1 : True := trivial
  go_wp2_with (first
    | (have _t := t1; go_at_call 25; refine (putPointer_any gb 14 x.p (lay5 x) _ y15' rfl (by omega)).mono ?_; rintro e w16 ⟨rfl, y16', s16⟩; have rx16 := rx15.step s16 hxb; obtain ⟨_, _, _, _, q4⟩ := rx16.ino9; clear _t t1)
    | (go_at_call 25; refine (putPointer_any gb 16 x.q (lay6 x) _ y16' rfl (by omega)).mono ?_; rintro e w17 ⟨rfl, y17', s17⟩
       have y17 : Row w17 gb (iL x) := y17'
       have rr17 := (rr15.step s16 hrb).step s17 hrb)
    | (refine at_get 27 18 ar18 (by rfl) _ (by rfl) gb (by rfl) (iL x) y17 (iL_len x) ?_)
    | (refine at_put 27 18 ar18 (by rfl) _ _ (by rfl) gr (by rfl) (iL x) (by rfl) (iL_len x) _ rr17 (by simp) ?_; intro w18 r18 s18))
  have S18 := ((S15.next s16 (fun y hy => .inl (by subst hy; exact hgb))).next s17 (fun y hy => .inl (by subst hy; exact hgb))).next s18 (fun y hy => .inl (by subst hy; exact hgr))
  exact bodyPost_ret (retA ar18 Tryd.results8 rfl r18 (iL_len x)) rfl ⟨rfl, S18.below (Nat.le_refl _) (fun _ h => h)⟩
end Go.Proofs.YtbpnegklglaekaaDoor
