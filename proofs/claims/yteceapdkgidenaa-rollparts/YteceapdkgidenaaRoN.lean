/-
  Patches that do not meet may be laid in either order: no statement is proved here.
-/
import Derived.Test.YteceapdkgidenaaRoM
namespace Go.Proofs.Yteceapdkgidenaa
set_option linter.unusedVariables false
set_option linter.unusedSimpArgs false

theorem splice_get {l d : List UInt8} {o : Nat} (h : o + d.length ≤ l.length) (i : Nat) : (splice l o d)[i]? = if o ≤ i ∧ i < o + d.length then d[i - o]? else l[i]? := by
  unfold splice
  by_cases h1 : i < o
  · rw [List.getElem?_append_left (by simp; omega), List.getElem?_take, if_pos h1, if_neg (by omega)]
  · have ht : (l.take o).length = o := by simp; omega
    rw [List.getElem?_append_right (by omega), ht]
    by_cases h2 : i < o + d.length
    · rw [List.getElem?_append_left (by omega), if_pos ⟨by omega, h2⟩]
    · rw [List.getElem?_append_right (by omega), List.getElem?_drop, if_neg (by omega)]
      congr 1; omega
theorem splice_comm {l c d : List UInt8} {o r : Nat} (h1 : o + c.length ≤ l.length) (h2 : r + d.length ≤ l.length) (h : o + c.length ≤ r ∨ r + d.length ≤ o) : splice (splice l o c) r d = splice (splice l r d) o c := by
  have e1 : (splice l o c).length = l.length := splice_ln h1
  have e2 : (splice l r d).length = l.length := splice_ln h2
  apply List.ext_getElem?
  intro i
  rw [splice_get (by rw [e1]; exact h2), splice_get h1, splice_get (by rw [e2]; exact h1), splice_get h2]
  by_cases a : r ≤ i ∧ i < r + d.length
  · rw [if_pos a, if_neg (by omega), if_pos a]
  · rw [if_neg a, if_neg a]
/-- Two patches have a byte in common. -/
def ovl (a c : Pt) : Prop := a.off < c.off + (c.data.length : Int) ∧ c.off < a.off + (a.data.length : Int)
theorem lay_comm {b : Blk} {p q : Pt} {k t : Nat} (h1 : 1 ≤ k) (h6 : k ≤ 6) (ht : t < 4294967296) (hp : rfit p = true) (hq : rfit q = true) (kp : p.kind = k) (kq : q.kind = k) (h : ¬ ovl p q) : lyB (lyB b p t) q t = lyB (lyB b q t) p t := by
  have step : ∀ (b : Blk) (p : Pt), rfit p = true → p.kind = k → lyB b p t = sealK k t (lyS b p) := fun b p hf hk => by
    unfold lyB
    rw [if_pos hf, if_neg (by omega)]
    unfold pB
    rw [hk, isK_of h1 h6, if_pos rfl, Int.toNat_natCast]
  have load : ∀ (b : Blk) (p : Pt), rfit p = true → p.kind = k → gP (k : Int) (lyB b p t) = lyS b p := fun b p hf hk => by
    rw [step b p hf hk, gP_own (by omega) (seal_kind k t _ h1 h6 ht), seal_load k t _ h1 h6 ht]
  have np : p.kind ≠ 0 := by omega
  have nq : q.kind ≠ 0 := by omega
  rw [step (lyB b p t) q hq kq, step (lyB b q t) p hp kp]
  congr 1
  refine Ld.ext ?_
  rw [lyS_l hq nq, lyS_l hp np, kp, kq, load b p hp kp, load b q hq kq, lyS_l hp np, lyS_l hq nq, kp, kq]
  obtain ⟨_, _, p3, p4⟩ := rfit_to hp
  obtain ⟨_, _, q3, q4⟩ := rfit_to hq
  unfold room at p4 q4
  rw [if_neg np] at p4
  rw [if_neg nq] at q4
  have hl := (gP (k : Int) b).len
  unfold ovl at h
  refine splice_comm (by rw [by8_len]; omega) (by rw [by8_len]; omega) ?_
  rw [by8_len, by8_len]
  omega
/-- One is moved behind others. -/
theorem ov_move {t : Nat} {a : Pt} : ∀ (l : List Pt) (b : Blk), (∀ p ∈ l, ∀ b, lyB (lyB b a t) p t = lyB (lyB b p t) a t) → ovB t (lyB b a t) l = lyB (ovB t b l) a t
  | [], b, _ => rfl
  | p :: l, b, h => by
    rw [ovB_cons, ovB_cons, h p (by simp) b]
    exact ov_move l (lyB b p t) (fun q hq => h q (by simp [hq]))
theorem ov_parts {t : Nat} (m : Pt → Bool) : ∀ (l : List Pt) (b : Blk), l.Pairwise (fun a c => m a = false → m c = true → ∀ b, lyB (lyB b a t) c t = lyB (lyB b c t) a t) → ovB t b l = ovB t (ovB t b (l.filter m)) (l.filter fun p => !m p)
  | [], b, _ => rfl
  | a :: l, b, h => by
    rw [List.pairwise_cons] at h
    rw [ovB_cons, ov_parts m l _ h.2]
    cases hm : m a with
    | true => simp [List.filter_cons, hm, ovB_cons]
    | false =>
      have e1 : (a :: l).filter m = l.filter m := by simp [List.filter_cons, hm]
      have e2 : (a :: l).filter (fun p => !m p) = a :: l.filter fun p => !m p := by simp [List.filter_cons, hm]
      rw [e1, e2, ovB_cons, ov_move (l.filter m) b (fun p hp => h.1 p (List.mem_filter.1 hp).1 hm (List.mem_filter.1 hp).2)]
/-- Some, and then the others. -/
theorem roll_parts (b : Blk) (l : List Pt) (m : Pt → Bool) (k : Nat) (h1 : 1 ≤ k) (h6 : k ≤ 6) (hk : ∀ p ∈ l, p.kind = k) (hf : ∀ p ∈ l, rfit p = true) (hp : l.Pairwise fun a c => m a = false → m c = true → ¬ ovl a c) :
    nwE l = 0 ∧ nwE (l.filter m) = 0 ∧ nwE (l.filter fun p => !m p) = 0 ∧ sm2 (nwB b l) (nwB (nwB b (l.filter m)) (l.filter fun p => !m p)) = true := by
  have a1 : l.all rfit = true := List.all_eq_true.2 hf
  have a2 : (l.filter m).all rfit = true := List.all_eq_true.2 fun p hp => hf p (List.mem_filter.1 hp).1
  have a3 : (l.filter fun p => !m p).all rfit = true := List.all_eq_true.2 fun p hp => hf p (List.mem_filter.1 hp).1
  refine ⟨by unfold nwE; rw [if_pos a1], by unfold nwE; rw [if_pos a2], by unfold nwE; rw [if_pos a3], ?_⟩
  unfold nwB
  rw [if_pos a1, if_pos a2, if_pos a3]
  have hP' : l.Pairwise (fun a c => m a = false → m c = true → ∀ b', lyB (lyB b' a (nT b)) c (nT b) = lyB (lyB b' c (nT b)) a (nT b)) := by
    refine (List.Pairwise.and_mem.1 hp).imp ?_
    rintro a c ⟨ha, hc, h⟩ e1 e2 b'
    exact lay_comm h1 h6 (nT_lt _) (hf a ha) (hf c hc) (hk a ha) (hk c hc) (h e1 e2)
  rw [ov_parts m l b hP']
  exact (sim.over (nT_lt _) (nT_lt _) _ (sim.refl _) (fun p hp => by have := hk p (List.mem_filter.1 hp).1; omega)).same
end Go.Proofs.Yteceapdkgidenaa
