/-
  What Split and SameTexts of the helpers, few and the library's Cut return: no statement is proved here.
-/
import Derived.Test.YtadeocphkihamaaStA
import Derived.Test.YtadeocphkihamaaPaM
import Derived.Test.YtadeocphkihamaaShP
namespace Go.Proofs.Ytadeocphkihamaa
open Go.ChangeShapes Go.WideShapes Go.ChangeAt Go.RowKit
set_option linter.unusedVariables false
set_option linter.unusedSimpArgs false

theorem str_sub (l : List UInt8) (i j : Nat) : (str l).extract i j = str ((l.take j).drop i) := by
  apply ByteArray.ext
  unfold str; simp [List.drop_take]
theorem str_data (l : List UInt8) : (str l).data.toList = l := by unfold str; simp
/-- The text's part ahead of the first slash, that behind it, and whether there is one. -/
def ctA (l : List UInt8) : List UInt8 := if Lib.indexByte l 47 = -1 then l else l.take (Lib.indexByte l 47).toNat
def ctB (l : List UInt8) : List UInt8 := if Lib.indexByte l 47 = -1 then [] else l.drop ((Lib.indexByte l 47).toNat + 1)
def ctF (l : List UInt8) : Bool := decide (Lib.indexByte l 47 ≠ -1)
set_option maxRecDepth 100000 in
theorem cut_any (l : List UInt8) (w : World) (hl : l.length ≤ 100000) : Calls Try.prog 20 #[.string (str l), .string ⟨#[47]⟩] w fun e w' => e = .returned (.tuple #[.string (str (ctA l)), .string (str (ctB l)), .bool (ctF l)]) ∧ Below w.heap.size w w' := by
  have H := Any.stringslite_Index_one Ytadeocphkihamaa.lays219 (str l) 47 w
  have H' : Calls Try.prog 33 #[.string (str l), .string ⟨#[47]⟩] w fun e w' => e = .returned (.int .i64 (Lib.indexByte l 47)) ∧ w' = w := by
    have := str_data l
    rw [this] at H
    exact H
  clear H
  have hz := str_size l
  unfold ctA ctB ctF
  have hS := str_sub l
  rcases prt_cut l with ⟨h1, _⟩ | ⟨i, h1, h2, _⟩
  · rw [h1] at H' ⊢
    rw [if_pos rfl, if_pos rfl]
    go_enter Try.func20, Try.ntmps20
    go_wp2_with (first
      | (go_at_call 33; refine H'.mono ?_; rintro e w' ⟨rfl, rfl⟩)
      | go_in)
    go_returns
    exact ⟨rfl, Below.refl _ _⟩
  · rw [h1] at H' ⊢
    have hne : ¬ (i : Int) = -1 := by omega
    rw [if_neg hne, if_neg hne]
    have e1 := hS 0 i
    have e2 := hS (i + 1) l.length
    rw [List.take_length] at e2
    rw [List.drop_zero] at e1
    have c1 : (i : Int) ≤ l.length := by omega
    have c2 : (i : Int) + 1 ≤ l.length := by omega
    have c3 : IntKind.i64.wrap ((i : Int) + 1) = (i : Int) + 1 := by rw [IntKind.wrap_i64]; omega
    have c4 : ((i : Int) + 1).toNat = i + 1 := by omega
    have c5 : (0 : Int) ≤ (i : Int) + 1 := by omega
    clear hS
    have a0 : ((i : Int)).toNat = i := by omega
    rw [a0]
    go_enter Try.func20, Try.ntmps20
    go_wp2_with (first
      | (go_at_call 33; refine H'.mono ?_; rintro e w' ⟨rfl, rfl⟩)
      | go_in)
    go_region
    go_wp2
    go_returns
    exact ⟨by simp, (Below.refl _ _).drew⟩
theorem pcut_any (l : List UInt8) (w : World) : Calls Try.prog 19 #[.string (str l), .string ⟨#[47]⟩] w fun e w' => e = .returned (.tuple #[.string (str (if l.head? = some 47 then l.tail else l)), .bool (decide (l.head? = some 47))]) ∧ w = w' := by
  refine (Any.strings_CutPrefix Ytadeocphkihamaa.lays103 (str l) ⟨#[47]⟩ w).mono ?_
  rintro e w' ⟨rfl, rfl⟩
  refine ⟨?_, rfl⟩
  rw [str_data]
  cases l with
  | nil => rfl
  | cons b r =>
    by_cases hb : b = 47
    · subst hb
      simp [Lib.trimPrefix, Lib.hasPrefix, str]
    · have hb' : ¬ (47 : UInt8) = b := fun e => hb e.symm
      have hp : [(47 : UInt8)].isPrefixOf (b :: r) = false := by simp [List.isPrefixOf, hb']
      simp [Lib.trimPrefix, Lib.hasPrefix, str, hb, hp]
set_option maxRecDepth 100000 in
set_option maxHeartbeats 2000000 in
theorem sameT_any {w : World} {a1 a2 : Option Addr} {n1 n2 c1 c2 : Nat} {l : List (List UInt8)} (ha : Sts w a1 n1 c1 l) (hb : Sts w a2 n2 c2 l) (hl : l.length ≤ 100000) :
    Calls Try.prog 12 #[.slice a1 n1 c1, .slice a2 n2 c2] w fun e w' => e = .returned (.bool true) ∧ Below w.heap.size w w' := by
  have h1 := ha.len
  have h2 := hb.len
  have ca := ha.cell
  have cb := hb.cell
  subst h1; subst h2
  clear ha hb
  go_enter Try.func12, Try.ntmps12
  go_wp2
  go_loopw [5] (fun x wr => ∃ k : Nat, k ≤ l.length ∧ x = .int .i64 (k : Int) ∧ Below w.heap.size w wr) (fun x _ => l.length - (intOf x).toNat)
  case atStart => exact ⟨0, Nat.zero_le _, rfl, Below.refl _ _⟩
  case round =>
    obtain ⟨k, hk, rfl, hB⟩ := hrel
    by_cases hlt : k < l.length
    · obtain ⟨b1, o1, rfl, g1⟩ := ca (by omega)
      obtain ⟨b2, o2, rfl, g2⟩ := cb (by omega)
      have ck1 : wr.cell? ⟨b1, o1 + k, none⟩ = some (.string (str (l.getD k []))) := (Stp.of_below hB (fun _ => False)).cell (g1 k hlt) id
      have ck2 : wr.cell? ⟨b2, o2 + k, none⟩ = some (.string (str (l.getD k []))) := (Stp.of_below hB (fun _ => False)).cell (g2 k hlt) id
      clear g1 g2 ca cb
      generalize str (l.getD k []) = y at *
      have a9 : (k : Int) < (l.length : Int) := by omega
      have a8 : (0 : Int) ≤ (k : Int) := by omega
      go_wp2
      go_region
      go_wp2
      go_roundw
      case rel => exact ⟨k + 1, by omega, by go_num, hB.drew⟩
      case measure => simp [intOf]; omega
    · have hk' : k = l.length := by omega
      subst hk'
      go_wp2
      go_returns
      exact ⟨rfl, hB⟩
end Go.Proofs.Ytadeocphkihamaa
