/-
  The document's sectors that are held, in memory: no statement is proved here.
-/
import Derived.Test.YtecedklfdmbnpaaCacS
import Derived.Test.YtecedklfdmbnpaaRfM
import Derived.Great.BuildSlice
namespace Go.Proofs.Ytecedklfdmbnpaa
open Go.ChangeShapes Go.WideShapes Go.ChangeAt Go.RowKit
set_option linter.unusedVariables false
set_option linter.unusedSimpArgs false

/-- A held sector's cells. -/
def onc (e : Int × Pg) : List Value := .int .i64 e.1 :: e.2.cs
theorem onc_len (e : Int × Pg) : (onc e).length = 67 := by unfold onc; simp [e.2.cs_len]
theorem onc_one (e : Int × Pg) : ∀ v ∈ onc e, v.oneCell' = true := by
  intro v hv; unfold onc at hv
  rcases List.mem_cons.1 hv with rfl | h
  · rfl
  · exact e.2.cs_one v h
def e0 : Int × Pg := (0, ⟨Blk.zero, false, 0⟩)
def flN (l : El) : List Value := l.flatMap onc
theorem flN_len (l : El) : (flN l).length = l.length * 67 := by
  unfold flN
  induction l with
  | nil => rfl
  | cons a r ih => rw [List.flatMap_cons, List.length_append, ih, onc_len, List.length_cons]; omega
theorem flN_get : ∀ (l : El) (i j : Nat), i < l.length → j < 67 → (flN l)[i * 67 + j]? = (onc (l.getD i e0))[j]?
  | [], i, j, h, _ => by simp at h
  | a :: r, 0, j, _, hj => by
    unfold flN; rw [List.flatMap_cons, List.getElem?_append_left (by rw [onc_len]; omega)]; simp
  | a :: r, i + 1, j, h, hj => by
    have := flN_get r i j (by simpa using h) hj
    unfold flN at *
    rw [List.flatMap_cons, List.getElem?_append_right (by rw [onc_len]; omega), onc_len, show (i + 1) * 67 + j - 67 = i * 67 + j by omega, this]; simp
theorem flN_app (l r : El) : flN (l ++ r) = flN l ++ flN r := by unfold flN; simp
theorem flN_one' (l : El) : ∀ v ∈ flN l, v.oneCell' = true := by
  intro v hv; unfold flN at hv; obtain ⟨b, _, hb⟩ := List.mem_flatMap.1 hv; exact onc_one b v hb
theorem flN_tk (L : El) (k : Nat) : (flN L).take (k * 67) = flN (L.take k) := by
  induction L generalizing k with
  | nil => simp [flN]
  | cons a r ih =>
    cases k with
    | zero => simp [flN]
    | succ k =>
      unfold flN at *
      rw [List.flatMap_cons, List.take_succ_cons, List.flatMap_cons, List.take_append, onc_len, List.take_of_length_le (by rw [onc_len]; omega), show (k + 1) * 67 - 67 = k * 67 by omega, ih]
theorem flN_dp (L : El) (k : Nat) : (flN L).drop (k * 67) = flN (L.drop k) := by
  induction L generalizing k with
  | nil => simp [flN]
  | cons a r ih =>
    cases k with
    | zero => simp [flN]
    | succ k =>
      unfold flN at *
      rw [List.flatMap_cons, List.drop_succ_cons, List.drop_append, onc_len, List.drop_eq_nil_of_le (by rw [onc_len]; omega), show (k + 1) * 67 - 67 = k * 67 by omega, ih]; rfl
theorem infoO : (Try.prog.info? 82).map (fun i => (i.zero, i.size, i.bytes)) = some (some (.agg (onc e0).toArray), 67, 88) := by kernel_rfl
theorem uOs : Try.prog.underlying 47 = some (.slice 82) := by kernel_rfl
theorem uO : ∃ d, Try.prog.underlying 82 = some d ∧ d.isRow = true := ⟨_, Try.underlying82, rfl⟩
theorem szO : (Try.prog.info? 82).map (·.size) = some 67 := by kernel_rfl
theorem zeroO (w : World) : (zeroValue 82).run Try.prog w = .ok (.agg (onc e0).toArray) w := (zero_of_info (v := .agg (onc e0).toArray) (n := 67) (by kernel_rfl)).1 w
theorem sizeO (w : World) : (sizeOf 82).run Try.prog w = .ok 67 w := by kernel_rfl
theorem loadO {w : World} {g o : Nat} {e : Int × Pg} (h : w.rangeAt g o (onc e)) : (loadVar 82 ⟨g, o, none⟩).run Try.prog w = .ok (.agg (onc e).toArray) w := by
  obtain ⟨d, h1, h2⟩ := uO
  exact run_loadVar_mid w g o _ (onc e) _ h h1 h2 (by rw [szO, onc_len])
theorem fill_one (k : Int) (b : Blk) (X : List Value) (hX : X.length = 64) : Instr.fill ([(0, 1), (1, 64), (65, 1), (66, 1)].toArray[·]?) (Value.int .i64 0 :: X ++ [Value.bool false, .int .i64 0]).toArray [(0, .int .i64 k), (1, .agg b.cs.toArray)] = some (onc (k, ⟨b, false, 0⟩)).toArray := by
  have hf := fold_set b.cs 1 0 (Value.int .i64 k :: X ++ [Value.bool false, .int .i64 0]) (by simp [hX, b.cs_len])
  have hd : (Value.int .i64 k :: X ++ [Value.bool false, .int .i64 0]).drop (1 + 0 + b.cs.length) = [Value.bool false, .int .i64 0] := by
    rw [b.cs_len, show 1 + 0 + 64 = X.length + 1 by rw [hX]]; simp
  rw [hd] at hf
  simp only [Instr.fill, Value.cells]
  simp [hX, b.cs_len]
  simpa [onc, Pg.cs] using hf
theorem build_one (k : Int) (b : Blk) (w : World) : (Instr.build 82 #[(0, .int .i64 k), (1, .agg b.cs.toArray)]).run Try.prog w = .ok (.agg (onc (k, ⟨b, false, 0⟩)).toArray) w := by
  refine run_build w _ _ _ ?_
  have h : Try.prog.built 82 [(0, .int .i64 k), (1, .agg b.cs.toArray)] = Instr.fill ([(0, 1), (1, 64), (65, 1), (66, 1)].toArray[·]?) (Value.int .i64 0 :: (List.replicate 64 (Value.int .u8 0)) ++ [Value.bool false, .int .i64 0]).toArray [(0, .int .i64 k), (1, .agg b.cs.toArray)] := by kernel_rfl
  refine h.trans (fill_one k b _ (by simp))
theorem bslice_one (e : Int × Pg) (w : World) : (Instr.buildSlice 47 1 #[(0, .agg (onc e).toArray)]).run Try.prog w = .ok (.slice (some ⟨w.heap.size, 0, none⟩) 1 1) (w.alloc (.cells (onc e).toArray 82)) := by
  obtain ⟨ie, hie, hz, hs, hb⟩ := info_parts infoO
  refine run_buildSlice w _ _ 1 _ (onc e).toArray ie _ uOs hie hz (by rw [hs]; omega) (by rw [hs]; omega) ?_
  rw [hs]
  have := Great.fill_whole (s := 67) (by omega) [.agg (onc e).toArray] ((Array.range (1 * 67)).map ((Value.agg (onc e0).toArray).cells[· % (Value.agg (onc e0).toArray).cells.size]!)) (by intro v hv; simp at hv; subst hv; simp [Value.cells, onc_len]) (by simp)
  simpa [Value.cells] using this
/-- The slice v, of one's own, holds just these. -/
def OwL (w : World) (v : Value) (l : El) : Prop := w.ownsRow 0 82 67 v l.length (flN l)
structure RwL (w : World) (g cap : Nat) (l : El) (cur : Array Value) : Prop where
  at' : w.heap[g]? = some (.cells cur 82 (0, 0))
  le : l.length ≤ cap
  cm : cap ≤ maxLen
  size : cur.size = cap * 67
  take : cur.toList.take (l.length * 67) = flN l
section
variable {w w' : World} {v : Value} {l : El} {F : Nat → Prop}
theorem OwL.nil (w : World) : OwL w (.slice none 0 0) [] := ⟨rfl, .inl ⟨rfl, rfl⟩⟩
theorem OwL.row (h : OwL w v l) : (v = .slice none 0 0 ∧ l = []) ∨ ∃ g cap cur, v = .slice (some ⟨g, 0, none⟩) l.length cap ∧ RwL w g cap l cur := by
  rcases h.2 with ⟨h1, h2⟩ | ⟨g, cap, cur, h1, _, h3, h4, h5, h6, h7⟩
  · exact .inl ⟨h1, List.eq_nil_of_length_eq_zero h2⟩
  · exact .inr ⟨g, cap, cur, h1, h3, h4, h5, h6, h7⟩
theorem OwL.row1 (h : OwL w v l) (hl : l ≠ []) : ∃ g cap cur, v = .slice (some ⟨g, 0, none⟩) l.length cap ∧ RwL w g cap l cur := by
  rcases h.row with ⟨_, e⟩ | h
  · exact absurd e hl
  · exact h
theorem RwL.own {g cap : Nat} {cur : Array Value} (h : RwL w g cap l cur) : OwL w (.slice (some ⟨g, 0, none⟩) l.length cap) l :=
  ⟨flN_len l, .inr ⟨g, cap, cur, rfl, Nat.zero_le _, h.at', h.le, h.cm, h.size, h.take⟩⟩
theorem RwL.lt {g cap : Nat} {cur : Array Value} (h : RwL w g cap l cur) : g < w.heap.size := (Array.getElem?_eq_some_iff.1 h.at').1
theorem RwL.cells {g cap : Nat} {cur : Array Value} (h : RwL w g cap l cur) (i : Nat) (u : Value) (hu : (flN l)[i]? = some u) : w.cell? ⟨g, i, none⟩ = some u := by
  have hi : i < l.length * 67 := by have := (List.getElem?_eq_some_iff.1 hu).1; rwa [flN_len] at this
  rw [cell_of_row w g i _ _ (0, 0) h.at']
  have h1 : (cur.toList.take (l.length * 67))[i]? = (flN l)[i]? := by rw [h.take]
  rw [List.getElem?_take, if_pos hi, hu] at h1
  simpa using h1
theorem RwL.range {g cap : Nat} {cur : Array Value} (h : RwL w g cap l cur) (k : Nat) (hk : k < l.length) : w.rangeAt g (k * 67) (onc (l.getD k e0)) := fun j u hu => by
  have hj : j < 67 := by have := (List.getElem?_eq_some_iff.1 hu).1; rw [onc_len] at this; exact this
  exact h.cells (k * 67 + j) u (by rw [flN_get l k j hk hj]; exact hu)
theorem RwL.frozen {g cap : Nat} {cur : Array Value} (h : RwL w g cap l cur) (i : Nat) : w.frozen? ⟨g, i, none⟩ = false := by simp [World.frozen?, h.at']
theorem OwL.lt (h : OwL w v l) {r : Nat} (hr : v.ownBlock = some r) : r < w.heap.size := by
  rcases h.row with ⟨rfl, _⟩ | ⟨g, cap, cur, rfl, hw⟩
  · cases hr
  · have : g = r := by simpa [Value.ownBlock] using hr
    rw [← this]; exact hw.lt
theorem OwL.step (h : OwL w v l) (k : Stp F w w') (hF : ∀ r, v.ownBlock = some r → ¬ F r) : OwL w' v l := by
  rcases h.row with ⟨rfl, rfl⟩ | ⟨g, cap, cur, rfl, hw⟩
  · exact OwL.nil w'
  · exact RwL.own (cur := cur) ⟨by rw [k.block g hw.lt (hF g rfl)]; exact hw.at', hw.le, hw.cm, hw.size, hw.take⟩
theorem OwL.later (h : OwL w v l) (k : Below w.heap.size w w') : OwL w' v l := h.step (Stp.of_below k (fun _ => False)) (fun _ _ => id)
theorem OwL.one (h : OwL w v l) : v.oneCell' = true := by
  rcases h.row with ⟨rfl, _⟩ | ⟨g, cap, cur, rfl, _⟩ <;> rfl
theorem OwL.shape (h : OwL w v l) : ∃ a c, v = .slice a l.length c := by
  rcases h.row with ⟨e, e2⟩ | ⟨g, cap, cur, e, _⟩
  · exact ⟨none, 0, by rw [e2]; exact e⟩
  · exact ⟨_, _, e⟩
theorem OwL.base {B : Nat} (h : OwL w v l) (hN : New B v) : w.ownsRow B 82 67 v l.length (flN l) := by
  rcases h.2 with ⟨e, e2⟩ | ⟨g, cap, cur, e, _, e3⟩
  · exact ⟨h.1, .inl ⟨e, e2⟩⟩
  · exact ⟨h.1, .inr ⟨g, cap, cur, e, hN g (by rw [e]; rfl), e3⟩⟩
/-- Some cells of its k-th, anew. -/
theorem RwL.set {g cap : Nat} {cur : Array Value} (h : RwL w g cap l cur) (k : Nat) (hk : k < l.length) (o : Nat) (vs : List Value) (e : Int × Pg) (ho : o + vs.length ≤ 67) (h1 : ∀ v ∈ vs, v.oneCell' = true) (he : onc e = (onc (l.getD k e0)).take o ++ vs ++ (onc (l.getD k e0)).drop (o + vs.length)) :
    ∃ cur', RwL (w.setCells g (k * 67 + o) vs) g cap (l.set k e) cur' := by
  have hle := h.le
  have hsz := h.size
  have hs := setCells_heap (o := k * 67 + o) vs h.at' (by rw [hsz]; have : (k + 1) * 67 ≤ cap * 67 := Nat.mul_le_mul_right _ (by omega); omega) h1
  refine ⟨_, hs, by rw [List.length_set]; exact hle, h.cm, ?_, ?_⟩
  · simp [hsz]; have : (k + 1) * 67 ≤ cap * 67 := Nat.mul_le_mul_right _ (by omega); omega
  · rw [List.length_set]
    apply List.ext_getElem?
    intro i
    have hset : ∀ a b : Nat, a < l.length → b < 67 → (flN (l.set k e))[a * 67 + b]? = (onc (if a = k then e else l.getD a e0))[b]? := fun a b ha hb => by
      rw [flN_get _ a b (by rw [List.length_set]; exact ha) hb, List.getD_eq_getElem?_getD]
      by_cases ea : a = k
      · subst ea; rw [List.getElem?_set_self ha, if_pos rfl]; rfl
      · rw [List.getElem?_set_ne (Ne.symm ea), if_neg ea, ← List.getD_eq_getElem?_getD]
    by_cases hi : i < l.length * 67
    · obtain ⟨a, b, rfl, hb⟩ : ∃ a b, i = a * 67 + b ∧ b < 67 := ⟨i / 67, i % 67, by omega, Nat.mod_lt _ (by omega)⟩
      have ha : a < l.length := by omega
      rw [hset a b ha hb, List.getElem?_take, if_pos hi]
      have hcur : ∀ j, j < l.length * 67 → cur.toList[j]? = (flN l)[j]? := fun j hj => by
        have := congrArg (fun z : List Value => z[j]?) h.take
        simp only [List.getElem?_take, if_pos hj] at this
        exact this
      have hlen : cur.toList.length = cap * 67 := by simp [hsz]
      have hkc : (k + 1) * 67 ≤ l.length * 67 := Nat.mul_le_mul_right _ (by omega)
      have hlc : l.length * 67 ≤ cap * 67 := Nat.mul_le_mul_right _ hle
      have htl : (cur.toList.take (k * 67 + o)).length = k * 67 + o := by rw [List.length_take, hlen]; omega
      simp only [List.toList_toArray]
      by_cases ea : a = k
      · subst ea
        rw [if_pos rfl, he]
        by_cases b1 : b < o
        · rw [List.append_assoc, List.getElem?_append_left (by rw [htl]; omega), List.getElem?_take, if_pos (by omega), hcur _ (by omega), flN_get l a b hk hb]
          rw [List.append_assoc, List.getElem?_append_left (by rw [List.length_take, onc_len]; omega), List.getElem?_take, if_pos b1]
        · by_cases b2 : b < o + vs.length
          · rw [List.append_assoc, List.getElem?_append_right (by rw [htl]; omega), htl, List.getElem?_append_left (by omega)]
            have hto : ((onc (l.getD a e0)).take o).length = o := by rw [List.length_take, onc_len]; omega
            rw [List.append_assoc, List.getElem?_append_right (by rw [hto]; omega), hto, List.getElem?_append_left (by omega)]
            congr 1; omega
          · rw [List.append_assoc, List.getElem?_append_right (by rw [htl]; omega), htl, List.getElem?_append_right (by omega), List.getElem?_drop]
            have hto : ((onc (l.getD a e0)).take o).length = o := by rw [List.length_take, onc_len]; omega
            rw [List.append_assoc, List.getElem?_append_right (by rw [hto]; omega), hto, List.getElem?_append_right (by omega), List.getElem?_drop]
            rw [show a * 67 + o + vs.length + (a * 67 + b - (a * 67 + o) - vs.length) = a * 67 + b by omega, hcur _ (by omega), flN_get l a b hk hb]
            congr 1; omega
      · rw [if_neg ea, ← flN_get l a b ha hb, ← hcur _ hi]
        by_cases ak : a < k
        · have : (a + 1) * 67 ≤ k * 67 := Nat.mul_le_mul_right _ (by omega)
          rw [List.append_assoc, List.getElem?_append_left (by rw [htl]; omega), List.getElem?_take, if_pos (by omega)]
        · have : (k + 1) * 67 ≤ a * 67 := Nat.mul_le_mul_right _ (by omega)
          rw [List.append_assoc, List.getElem?_append_right (by rw [htl]; omega), htl, List.getElem?_append_right (by omega), List.getElem?_drop]
          congr 1; omega
    · rw [List.getElem?_take, if_neg hi, List.getElem?_eq_none (by rw [flN_len, List.length_set]; omega)]
end
end Go.Proofs.Ytecedklfdmbnpaa
