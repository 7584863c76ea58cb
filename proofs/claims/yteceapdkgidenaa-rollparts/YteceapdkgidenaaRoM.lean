/-
  Plain words of my own on rolls of layer 15, as lists: no statement is proved here.
-/
import Derived.Test.YteceapdkgidenaaSealJ
import Derived.Test.YteceapdkgidenaaGrM
namespace Go.Proofs.Yteceapdkgidenaa
set_option linter.unusedVariables false
set_option linter.unusedSimpArgs false

/-- Numbers as bytes. -/
def by8 (l : List Int) : List UInt8 := l.map fun x => UInt8.ofNat x.toNat
theorem by8_len (l : List Int) : (by8 l).length = l.length := by unfold by8; simp
theorem ints_by8 {l : List Int} (h : ∀ x ∈ l, 0 ≤ x ∧ x ≤ 255) : ints (by8 l) = l := by
  unfold ints by8
  rw [List.map_map]
  refine (List.map_congr_left fun x hx => ?_).trans (List.map_id l)
  have := h x hx
  simp only [Function.comp, id]
  rw [u8_to (by omega)]; omega
theorem by8_ints (l : List UInt8) : by8 (ints l) = l := by
  unfold ints by8
  rw [List.map_map]
  refine (List.map_congr_left fun x hx => ?_).trans (List.map_id l)
  simp only [Function.comp, id, Int.toNat_natCast]
  exact UInt8.ofNat_toNat
theorem splice_ln {l c : List UInt8} {o : Nat} (h : o + c.length ≤ l.length) : (splice l o c).length = l.length := by
  unfold splice; simp; omega
theorem splice_none (l : List UInt8) (o : Nat) : splice l o [] = l := by unfold splice; simp
/-- Rows of 64, and of 54 bytes. -/
def mkB (l : List UInt8) : Blk := if h : l.length = 64 then ⟨l, h⟩ else Blk.zero
def mkL (l : List UInt8) : Ld := if h : l.length = 54 then ⟨l, h⟩ else Ld.zero
theorem mkB_l {l : List UInt8} (h : l.length = 64) : (mkB l).l = l := by unfold mkB; rw [dif_pos h]
theorem mkL_l {l : List UInt8} (h : l.length = 54) : (mkL l).l = l := by unfold mkL; rw [dif_pos h]
/-- A patch whose kind and place are such as may be. -/
def room (p : Pt) : Int := if p.kind = 0 then 64 else 54
def rfit (p : Pt) : Bool := decide (0 ≤ p.kind) && decide (p.kind ≤ 6) && decide (0 ≤ p.off) && decide (p.off ≤ room p - (p.data.length : Int))
theorem rfit_to {p : Pt} (h : rfit p = true) : 0 ≤ p.kind ∧ p.kind ≤ 6 ∧ 0 ≤ p.off ∧ p.off ≤ room p - (p.data.length : Int) := by
  unfold rfit at h
  simp only [Bool.and_eq_true, decide_eq_true_eq] at h
  exact ⟨h.1.1.1, h.1.1.2, h.1.2, h.2⟩
/-- It is laid over a sector: the bytes, and the error. -/
def lyR (b : Blk) (p : Pt) : Blk := mkB (splice b.l p.off.toNat (by8 p.data))
def lyS (b : Blk) (p : Pt) : Ld := mkL (splice (gP p.kind b).l p.off.toNat (by8 p.data))
def lyB (b : Blk) (p : Pt) (t : Nat) : Blk := if rfit p = true then (if p.kind = 0 then lyR b p else pB p.kind t (lyS b p)) else b
def lyE (p : Pt) : Int := if rfit p = true then 0 else 2
/-- A roll. -/
def ovB (t : Nat) (b : Blk) (l : List Pt) : Blk := l.foldl (fun x p => lyB x p t) b
def nwE (l : List Pt) : Int := if l.all rfit = true then 0 else 2
def nwB (b : Blk) (l : List Pt) : Blk := if l.all rfit = true then ovB (nT b) b l else b
theorem ovB_nil (t : Nat) (b : Blk) : ovB t b [] = b := rfl
theorem ovB_cons (t : Nat) (b : Blk) (p : Pt) (l : List Pt) : ovB t b (p :: l) = ovB t (lyB b p t) l := rfl
theorem ovB_append (t : Nat) (b : Blk) (l m : List Pt) : ovB t b (l ++ m) = ovB t (ovB t b l) m := by unfold ovB; rw [List.foldl_append]
theorem nwB_nil (b : Blk) : nwB b [] = b := rfl
theorem nwE_nil : nwE [] = 0 := rfl
theorem lyR_l {b : Blk} {p : Pt} (h : rfit p = true) (hk : p.kind = 0) : (lyR b p).l = splice b.l p.off.toNat (by8 p.data) := by
  obtain ⟨h1, h2, h3, h4⟩ := rfit_to h
  unfold room at h4
  rw [if_pos hk] at h4
  have hb := b.len
  refine mkB_l ?_
  rw [splice_ln (by rw [by8_len]; omega)]; exact hb
theorem lyS_l {b : Blk} {p : Pt} (h : rfit p = true) (hk : p.kind ≠ 0) : (lyS b p).l = splice (gP p.kind b).l p.off.toNat (by8 p.data) := by
  obtain ⟨h1, h2, h3, h4⟩ := rfit_to h
  unfold room at h4
  rw [if_neg hk] at h4
  have hb := (gP p.kind b).len
  refine mkL_l ?_
  rw [splice_ln (by rw [by8_len]; omega)]; exact hb
/-- The same but for turns. -/
structure sim (a b : Blk) : Prop where
  k : oK a = oK b
  p : oP a = oP b
  n : oK a = 0 → a = b
theorem sim.refl (a : Blk) : sim a a := ⟨rfl, rfl, fun _ => rfl⟩
theorem sim.same {a b : Blk} (h : sim a b) : sm2 a b = true := by
  unfold sm2
  rw [if_pos h.k]
  by_cases h0 : oK a = 0
  · rw [if_pos h0, h.n h0]; simp
  · rw [if_neg h0, h.p]; simp
theorem sim.gP {a b : Blk} (h : sim a b) (k : Int) : gP k a = gP k b := by
  unfold Go.Proofs.Yteceapdkgidenaa.gP gE
  rw [h.k, h.p]
theorem sim.lay {a b : Blk} (h : sim a b) {p : Pt} (hp : p.kind ≠ 0) (t t' : Nat) (ht : t < 4294967296) (ht' : t' < 4294967296) : sim (lyB a p t) (lyB b p t') := by
  unfold lyB
  by_cases hf : rfit p = true
  · rw [if_pos hf, if_pos hf, if_neg hp, if_neg hp]
    have e : lyS a p = lyS b p := by unfold lyS; rw [h.gP]
    rw [e]
    obtain ⟨h1, h2, h3, h4⟩ := rfit_to hf
    obtain ⟨k, hk⟩ : ∃ k : Nat, p.kind = k := ⟨p.kind.toNat, by omega⟩
    have hk1 : 1 ≤ k := by omega
    have hk6 : k ≤ 6 := by omega
    unfold pB
    rw [hk, isK_of hk1 hk6, if_pos rfl, if_pos rfl, Int.toNat_natCast]
    refine ⟨?_, ?_, fun h0 => ?_⟩
    · rw [seal_kind k t _ hk1 hk6 ht, seal_kind k t' _ hk1 hk6 ht']
    · rw [seal_load k t _ hk1 hk6 ht, seal_load k t' _ hk1 hk6 ht']
    · rw [seal_kind k t _ hk1 hk6 ht] at h0; omega
  · rw [if_neg hf, if_neg hf]; exact h
theorem sim.over {t t' : Nat} (ht : t < 4294967296) (ht' : t' < 4294967296) : ∀ (l : List Pt) {a b : Blk}, sim a b → (∀ p ∈ l, p.kind ≠ 0) → sim (ovB t a l) (ovB t' b l)
  | [], _, _, h, _ => h
  | p :: l, _, _, h, hl => sim.over ht ht' l (h.lay (hl p (by simp)) t t' ht ht') (fun q hq => hl q (by simp [hq]))
/-- One part, and then the other. -/
theorem roll_on (b : Blk) (l m : List Pt) (h : ∀ p ∈ l ++ m, p.kind ≠ 0) (hf : (l ++ m).all rfit = true) : sm2 (nwB b (l ++ m)) (nwB (nwB b l) m) = true := by
  have h1 : l.all rfit = true := by rw [List.all_append, Bool.and_eq_true] at hf; exact hf.1
  have h2 : m.all rfit = true := by rw [List.all_append, Bool.and_eq_true] at hf; exact hf.2
  unfold nwB
  rw [if_pos hf, if_pos h1, if_pos h2, ovB_append]
  exact (sim.over (nT_lt _) (nT_lt _) m (sim.refl _) (fun p hp => h p (by simp [hp]))).same
theorem nwE_append (l m : List Pt) : nwE (l ++ m) = 0 → nwE l = 0 ∧ nwE m = 0 := by
  unfold nwE
  rw [List.all_append]
  cases l.all rfit <;> cases m.all rfit <;> simp
theorem nwE_of {l : List Pt} (h : nwE l = 0) : l.all rfit = true := by
  unfold nwE at h
  by_cases hf : l.all rfit = true
  · exact hf
  · rw [if_neg hf] at h; cases h
theorem nwB_else {b : Blk} {l : List Pt} (h : nwE l ≠ 0) : nwB b l = b := by
  unfold nwE at h; unfold nwB
  by_cases hf : l.all rfit = true
  · rw [if_pos hf] at h; exact absurd rfl h
  · rw [if_neg hf]
end Go.Proofs.Yteceapdkgidenaa
