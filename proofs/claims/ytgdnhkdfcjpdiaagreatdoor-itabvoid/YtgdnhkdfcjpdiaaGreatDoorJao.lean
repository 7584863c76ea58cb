/-
  Texts of my own, joined: no statement is proved here.
-/
import Derived.Test.YtgdnhkdfcjpdiaaGreatDoorJan
set_option linter.unusedSimpArgs false
set_option linter.unusedVariables false
namespace Go.Proofs.YtgdnhkdfcjpdiaaGreatDoor
open Go.ChangeShapes Go.WideShapes Go.ChangeAt Go.RowKit
structure Pg where
  b : Blk
  ch : Bool
  pn : Int
def Pg.cs (q : Pg) : List Value := q.b.cs ++ [.bool q.ch, .int .i64 q.pn]
theorem Pg.cs_len (q : Pg) : q.cs.length = 66 := by unfold Pg.cs; rw [List.length_append, q.b.cs_len]; rfl
theorem Pg.cs_one (q : Pg) : ∀ v ∈ q.cs, v.oneCell' = true := by
  intro v hv
  unfold Pg.cs at hv
  rcases List.mem_append.1 hv with h | h
  · exact q.b.cs_one v h
  · rcases List.mem_cons.1 h with rfl | h
    · rfl
    · rcases List.mem_cons.1 h with rfl | h
      · rfl
      · cases h
abbrev El := List (Int × Pg)
def fndC : El → Int → Option Pg
  | [], _ => none
  | e :: r, i => if e.1 = i then some e.2 else fndC r i
def rmv : El → Int → El
  | [], _ => []
  | e :: r, i => if e.1 = i then r else e :: rmv r i
def stP (l : El) (i : Int) (q : Pg) : El := l.map fun e => if e.1 = i then (i, q) else e
def hdU (u : Pg → Pg) : El → El
  | [] => []
  | e :: r => (e.1, u e.2) :: r
def vic : El → Option (Int × Pg)
  | [] => none
  | e :: r => match vic r with
    | some x => some x
    | none => if e.2.pn = 0 then some e else none
def keys (l : El) : List Int := l.map (·.1)
theorem keys_cons (e : Int × Pg) (l : El) : keys (e :: l) = e.1 :: keys l := rfl
theorem keys_len (l : El) : (keys l).length = l.length := List.length_map _
structure CZ where
  d : DS
  p : Option PS
  n : Nat
  l : El
  h : Int
  m : Int
def bkE (d : DS) (p : Option PS) (l : El) (i : Int) : Int := match fndC l i with
  | none => 5
  | some q => if q.ch = true then useRes d p i else 0
def CZ.backE (Z : CZ) (i : Int) : Int := bkE Z.d Z.p Z.l i
def CZ.wrt (Z : CZ) (i : Int) (q : Pg) : CZ := { Z with d := Z.d.write Z.p i q.b, p := useP Z.d Z.p i, l := if useRes Z.d Z.p i = 0 then stP Z.l i ⟨q.b, false, q.pn⟩ else Z.l }
def CZ.back (Z : CZ) (i : Int) : CZ := match fndC Z.l i with
  | none => Z
  | some q => if q.ch = true then Z.wrt i q else Z
def CZ.roomE (Z : CZ) : Int := if Z.l.length < Z.n then 0 else match vic Z.l with
  | none => 4
  | some e => Z.backE e.1
def CZ.less (Z : CZ) (i : Int) : CZ := { Z with l := rmv Z.l i }
def CZ.room (Z : CZ) : CZ := if Z.l.length < Z.n then Z else match vic Z.l with
  | none => Z
  | some e => if Z.backE e.1 = 0 then (Z.back e.1).less e.1 else Z.back e.1
def CZ.hit (Z : CZ) (i : Int) (q : Pg) : CZ := { Z with l := (i, q) :: rmv Z.l i, h := wrap64 (Z.h + 1) }
def CZ.miss (Z : CZ) (i : Int) (b : Blk) : CZ := { Z with l := (i, ⟨b, false, 0⟩) :: Z.l, m := wrap64 (Z.m + 1) }
def CZ.holdE (Z : CZ) (i : Int) : Int := if Z.d.inn i then (match fndC Z.l i with
  | some _ => 0
  | none => Z.roomE) else 2
def CZ.hold (Z : CZ) (i : Int) : CZ := if Z.d.inn i then (match fndC Z.l i with
  | some q => Z.hit i q
  | none => if Z.roomE = 0 then Z.room.miss i (Z.d.shown i) else Z.room) else Z
def CZ.got (Z : CZ) (i : Int) : Blk := if Z.holdE i = 0 then (match fndC (Z.hold i).l i with
  | some q => q.b
  | none => Blk.zero) else Blk.zero
def CZ.setP (Z : CZ) (i : Int) (q : Pg) : CZ := { Z with l := stP Z.l i q }
section
variable {l r : El} {i j : Int} {q q' : Pg} {e : Int × Pg}
theorem fnd_none_iff : fndC l i = none ↔ i ∉ keys l := by
  induction l with
  | nil => simp [fndC, keys]
  | cons a t ih =>
    unfold fndC
    rw [keys_cons]
    by_cases h : a.1 = i
    · rw [if_pos h]; simp [h]
    · rw [if_neg h, ih]; simp [Ne.symm h]
theorem fnd_memC (h : fndC l i = some q) : (i, q) ∈ l := by
  induction l with
  | nil => cases h
  | cons a t ih =>
    unfold fndC at h
    by_cases e : a.1 = i
    · rw [if_pos e] at h; injection h with h; subst h; subst e; simp
    · rw [if_neg e] at h; exact List.mem_cons_of_mem _ (ih h)
theorem mem_key (h : (i, q) ∈ l) : i ∈ keys l := List.mem_map_of_mem (f := (·.1)) h
theorem fnd_of_mem (hn : (keys l).Nodup) (h : (i, q) ∈ l) : fndC l i = some q := by
  induction l with
  | nil => cases h
  | cons a t ih =>
    rw [keys_cons, List.nodup_cons] at hn
    unfold fndC
    rcases List.mem_cons.1 h with h | h
    · subst h; simp
    · have : a.1 ≠ i := fun e => hn.1 (e ▸ mem_key h)
      rw [if_neg this]; exact ih hn.2 h
theorem rmv_not (h : i ∉ keys l) : rmv l i = l := by
  induction l with
  | nil => rfl
  | cons a t ih =>
    rw [keys_cons] at h
    simp only [List.mem_cons, not_or] at h
    unfold rmv; rw [if_neg (Ne.symm h.1), ih h.2]
theorem keys_rmv (l : El) (i : Int) : keys (rmv l i) = (keys l).erase i := by
  induction l with
  | nil => rfl
  | cons a t ih =>
    unfold rmv
    rw [keys_cons, List.erase_cons]
    by_cases h : a.1 = i
    · rw [if_pos h, if_pos (by simpa using h)]
    · rw [if_neg h, if_neg (by simpa using h), keys_cons, ih]
theorem mem_rmv (h : e ∈ rmv l i) : e ∈ l := by
  induction l with
  | nil => cases h
  | cons a t ih =>
    unfold rmv at h
    by_cases h1 : a.1 = i
    · rw [if_pos h1] at h; exact List.mem_cons_of_mem _ h
    · rw [if_neg h1] at h
      rcases List.mem_cons.1 h with h | h
      · rw [h]; simp
      · exact List.mem_cons_of_mem _ (ih h)
theorem fnd_rmv (hn : (keys l).Nodup) (j : Int) : fndC (rmv l i) j = if j = i then none else fndC l j := by
  induction l with
  | nil => simp [rmv, fndC]
  | cons a t ih =>
    rw [keys_cons, List.nodup_cons] at hn
    unfold rmv
    by_cases h : a.1 = i
    · rw [if_pos h]
      by_cases hj : j = i
      · rw [if_pos hj, fnd_none_iff, hj, ← h]; exact hn.1
      · rw [if_neg hj]; conv => rhs; unfold fndC
        rw [if_neg (fun e => hj (by rw [← e, h]))]
    · rw [if_neg h]
      unfold fndC
      by_cases ha : a.1 = j
      · rw [if_pos ha, if_neg (fun e => h (by rw [ha, e]))]; simp [ha]
      · rw [if_neg ha, ih hn.2]; simp [ha]
theorem len_rmv (h : i ∈ keys l) : (rmv l i).length + 1 = l.length := by
  have := congrArg List.length (keys_rmv l i)
  rw [keys_len, List.length_erase_of_mem h, keys_len] at this
  have h2 : 0 < (keys l).length := List.length_pos_of_mem h
  rw [keys_len] at h2
  omega
theorem keys_setP (l : El) (i : Int) (q : Pg) : keys (stP l i q) = keys l := by
  unfold keys stP
  rw [List.map_map]
  apply List.map_congr_left
  intro e _
  simp only [Function.comp]
  split <;> rename_i h
  · exact h.symm
  · rfl
theorem fnd_setP (j : Int) : fndC (stP l i q) j = if j = i then (fndC l i).map (fun _ => q) else fndC l j := by
  induction l with
  | nil => simp [stP, fndC]
  | cons a t ih =>
    unfold stP at ih ⊢
    rw [List.map_cons]
    unfold fndC
    by_cases h : a.1 = i
    · rw [if_pos h]
      simp only [h]
      by_cases hj : j = i
      · simp [hj]
      · rw [if_neg (Ne.symm hj), if_neg (Ne.symm hj), if_neg hj, ih, if_neg hj]
    · rw [if_neg h]
      by_cases hj : a.1 = j
      · rw [if_pos hj, if_pos hj, if_neg (fun e => h (by rw [hj, e]))]
      · rw [if_neg hj, if_neg hj, ih, if_neg h]
theorem mem_setP (h : e ∈ stP l i q) : e = (i, q) ∨ e ∈ l := by
  unfold stP at h
  obtain ⟨a, ha, rfl⟩ := List.mem_map.1 h
  split
  · exact .inl rfl
  · exact .inr ha
theorem len_setP (l : El) (i : Int) (q : Pg) : (stP l i q).length = l.length := List.length_map _
theorem vic_mem (h : vic l = some e) : e ∈ l ∧ e.2.pn = 0 := by
  induction l with
  | nil => cases h
  | cons a t ih =>
    unfold vic at h
    cases hv : vic t with
    | some x => rw [hv] at h; injection h with h; subst h; obtain ⟨h1, h2⟩ := ih hv; exact ⟨List.mem_cons_of_mem _ h1, h2⟩
    | none =>
      rw [hv] at h
      by_cases hp : a.2.pn = 0
      · simp only [hp, if_true] at h; injection h with h; subst h; exact ⟨List.mem_cons_self, hp⟩
      · simp only [hp, if_false] at h; cases h
end
structure CZ.ok (t : Nat) (Z : CZ) : Prop where
  n1 : 1 ≤ Z.n
  n2 : Z.n ≤ 64
  nd : (keys Z.l).Nodup
  inn : ∀ e ∈ Z.l, Z.d.inn e.1
  len : Z.l.length ≤ Z.n
  pin : ∀ e ∈ Z.l, 0 ≤ e.2.pn ∧ e.2.pn ≤ t
  wt : ∀ i, (Z.d.wt i).length ≤ t
  sp : ∀ s, Z.p = some s → okAt s t
section
variable {Z : CZ} {t : Nat} {i : Int} {q : Pg} {b : Blk}
theorem okAt_mono {s : PS} {k k' : Nat} (h : okAt s k) (hk : k ≤ k') : okAt s k' := by unfold okAt at *; omega
theorem CZ.ok.mono (h : Z.ok t) {t' : Nat} (ht : t ≤ t') : Z.ok t' :=
  ⟨h.n1, h.n2, h.nd, h.inn, h.len, fun e he => ⟨(h.pin e he).1, by have := (h.pin e he).2; omega⟩, fun i => Nat.le_trans (h.wt i) ht, fun s hs => okAt_mono (h.sp s hs) ht⟩
theorem use_okAt {s : PS} {t : Nat} (h : okAt s t) : okAt s.use (t + 1) := by
  unfold okAt at *
  unfold PS.use PS.reckon PS.useErr PS.down
  cases hl : s.lim <;> cases hg : s.gone <;> simp
  · omega
  · omega
  · by_cases h0 : s.left = 0
    · simp [h0]; omega
    · simp [h0]; omega
  · omega
theorem useP_ok (h : Z.ok t) (i : Int) : ∀ s, useP Z.d Z.p i = some s → okAt s (t + 1) := by
  intro s hs
  unfold useP at hs
  by_cases hi : Z.d.inn i
  · rw [if_pos hi] at hs
    unfold oUse at hs
    cases hp : Z.p with
    | none => rw [hp] at hs; cases hs
    | some s0 => rw [hp] at hs; injection hs with hs; subst hs; exact use_okAt (h.sp s0 hp)
  · rw [if_neg hi] at hs; exact okAt_mono (h.sp s hs) (by omega)
theorem write_n (d : DS) (p : Option PS) (i : Int) (b : Blk) : (d.write p i b).n = d.n := by unfold DS.write; split <;> rfl
theorem write_wt (d : DS) (p : Option PS) (i : Int) (b : Blk) (j : Int) : ((d.write p i b).wt j).length ≤ (d.wt j).length + 1 := by
  unfold DS.write
  split
  · simp only [DS.count, DS.wrote]
    split <;> rename_i e
    · rw [e]; simp
    · omega
  · omega
theorem CZ.ok.wrt (h : Z.ok t) (hq : fndC Z.l i = some q) : (Z.wrt i q).ok (t + 1) := by
  have hm := fnd_memC hq
  refine ⟨h.n1, h.n2, ?_, ?_, ?_, ?_, fun j => Nat.le_trans (write_wt _ _ _ _ j) (by have := h.wt j; omega), useP_ok h i⟩
  · show (keys (if _ then _ else _)).Nodup
    split
    · rw [keys_setP]; exact h.nd
    · exact h.nd
  · intro e he
    have : (Z.wrt i q).d.n = Z.d.n := write_n _ _ _ _
    unfold DS.inn; rw [this]
    have he' : e ∈ (if useRes Z.d Z.p i = 0 then stP Z.l i ⟨q.b, false, q.pn⟩ else Z.l) := he
    split at he'
    · rcases mem_setP he' with rfl | he'
      · exact h.inn (i, q) hm
      · exact h.inn e he'
    · exact h.inn e he'
  · show (if _ then _ else _ : El).length ≤ _
    split
    · rw [len_setP]; exact h.len
    · exact h.len
  · intro e he
    have he' : e ∈ (if useRes Z.d Z.p i = 0 then stP Z.l i ⟨q.b, false, q.pn⟩ else Z.l) := he
    have : ∀ x ∈ Z.l, 0 ≤ x.2.pn ∧ x.2.pn ≤ (t + 1 : Nat) := fun x hx => ⟨(h.pin x hx).1, by have := (h.pin x hx).2; omega⟩
    split at he'
    · rcases mem_setP he' with rfl | he'
      · exact this (i, q) hm
      · exact this e he'
    · exact this e he'
theorem CZ.ok.back (h : Z.ok t) (i : Int) : (Z.back i).ok (t + 1) := by
  unfold CZ.back
  cases hq : fndC Z.l i with
  | none => exact h.mono (by omega)
  | some q =>
    simp only
    split
    · exact h.wrt hq
    · exact h.mono (by omega)
theorem CZ.ok.less (h : Z.ok t) (i : Int) : (Z.less i).ok t := by
  refine ⟨h.n1, h.n2, ?_, fun e he => h.inn e (mem_rmv he), ?_, fun e he => h.pin e (mem_rmv he), h.wt, h.sp⟩
  · show (keys (rmv _ _)).Nodup
    rw [keys_rmv]; exact h.nd.erase i
  · show (rmv Z.l i).length ≤ Z.n
    by_cases hi : i ∈ keys Z.l
    · have := len_rmv hi; have := h.len; omega
    · rw [rmv_not hi]; exact h.len
theorem CZ.ok.room (h : Z.ok t) : Z.room.ok (t + 1) := by
  unfold CZ.room
  split
  · exact h.mono (by omega)
  · split
    · exact h.mono (by omega)
    · split
      · exact (h.back _).less _
      · exact h.back _
theorem back_n (Z : CZ) (i : Int) : (Z.back i).n = Z.n := by
  unfold CZ.back; split
  · rfl
  · split <;> rfl
theorem back_dn (Z : CZ) (i : Int) : (Z.back i).d.n = Z.d.n := by
  unfold CZ.back; split
  · rfl
  · split
    · exact write_n _ _ _ _
    · rfl
theorem back_keys (Z : CZ) (i : Int) : keys (Z.back i).l = keys Z.l := by
  unfold CZ.back; split
  · rfl
  · split
    · show keys (if _ then _ else _) = _
      split
      · exact keys_setP _ _ _
      · rfl
    · rfl
theorem room_n (Z : CZ) : Z.room.n = Z.n := by
  unfold CZ.room; split
  · rfl
  · split
    · rfl
    · split
      · exact back_n _ _
      · exact back_n _ _
theorem room_dn (Z : CZ) : Z.room.d.n = Z.d.n := by
  unfold CZ.room; split
  · rfl
  · split
    · rfl
    · split
      · exact back_dn _ _
      · exact back_dn _ _
theorem room_keys (Z : CZ) (h : i ∈ keys Z.room.l) : i ∈ keys Z.l := by
  unfold CZ.room at h; split at h
  · exact h
  · split at h
    · exact h
    · split at h
      · have h' : i ∈ keys (rmv (Z.back _).l _) := h
        rw [keys_rmv, back_keys] at h'
        exact List.mem_of_mem_erase h'
      · rw [back_keys] at h; exact h
theorem room_fits (h : Z.ok t) (he : Z.roomE = 0) : Z.room.l.length < Z.n := by
  unfold CZ.roomE at he
  unfold CZ.room
  split at he
  · rename_i h1; rw [if_pos h1]; exact h1
  · rename_i h1
    rw [if_neg h1]
    cases hv : vic Z.l with
    | none => rw [hv] at he; cases he
    | some e =>
      rw [hv] at he
      have he' : Z.backE e.1 = 0 := he
      simp only [he', if_true]
      show (rmv (Z.back e.1).l e.1).length < Z.n
      have hk : e.1 ∈ keys (Z.back e.1).l := by rw [back_keys]; exact mem_key (q := e.2) (vic_mem hv).1
      have h2 := len_rmv hk
      have h3 : (Z.back e.1).l.length = Z.l.length := by rw [← keys_len, back_keys, keys_len]
      have := h.len
      omega
theorem CZ.ok.hit (h : Z.ok t) (hq : fndC Z.l i = some q) : (Z.hit i q).ok t := by
  have hm := fnd_memC hq
  have hk := mem_key hm
  refine ⟨h.n1, h.n2, ?_, ?_, ?_, ?_, h.wt, h.sp⟩
  · show (keys ((i, q) :: rmv Z.l i)).Nodup
    rw [keys_cons, keys_rmv, List.nodup_cons]
    exact ⟨List.Nodup.not_mem_erase h.nd, h.nd.erase i⟩
  · intro e he
    rcases List.mem_cons.1 he with rfl | he
    · exact h.inn _ hm
    · exact h.inn e (mem_rmv he)
  · show ((i, q) :: rmv Z.l i).length ≤ Z.n
    have := len_rmv hk; have := h.len
    simp only [List.length_cons]; omega
  · intro e he
    rcases List.mem_cons.1 he with rfl | he
    · exact h.pin _ hm
    · exact h.pin e (mem_rmv he)
theorem CZ.ok.miss (h : Z.ok t) (hi : Z.d.inn i) (hn : fndC Z.l i = none) (hl : Z.l.length < Z.n) (b : Blk) : (Z.miss i b).ok t := by
  refine ⟨h.n1, h.n2, ?_, ?_, ?_, ?_, h.wt, h.sp⟩
  · show (keys ((i, _) :: Z.l)).Nodup
    rw [keys_cons, List.nodup_cons]
    exact ⟨fnd_none_iff.1 hn, h.nd⟩
  · intro e he
    rcases List.mem_cons.1 he with rfl | he
    · exact hi
    · exact h.inn e he
  · show ((i, _) :: Z.l : El).length ≤ Z.n
    simp only [List.length_cons]; omega
  · intro e he
    rcases List.mem_cons.1 he with rfl | he
    · exact ⟨by simp, by simp⟩
    · exact h.pin e he
theorem CZ.ok.hold (h : Z.ok t) (i : Int) : (Z.hold i).ok (t + 1) := by
  unfold CZ.hold
  split
  · rename_i hi
    cases hq : fndC Z.l i with
    | some q => exact (h.hit hq).mono (by omega)
    | none =>
      simp only
      split
      · rename_i he
        refine h.room.miss (by unfold DS.inn; rw [room_dn]; exact hi) (fnd_none_iff.2 fun hk => fnd_none_iff.1 hq (room_keys Z hk)) (by rw [room_n]; exact room_fits h he) _
      · exact h.room
  · exact h.mono (by omega)
theorem hold_head (h : Z.holdE i = 0) : ∃ q r, (Z.hold i).l = (i, q) :: r := by
  unfold CZ.holdE at h
  unfold CZ.hold
  split at h
  · rename_i hi
    rw [if_pos hi]
    cases hq : fndC Z.l i with
    | some q => exact ⟨_, _, rfl⟩
    | none =>
      rw [hq] at h
      have h' : Z.roomE = 0 := h
      simp only [h', if_true]
      exact ⟨_, _, rfl⟩
  · cases h
end
end Go.Proofs.YtgdnhkdfcjpdiaaGreatDoor
