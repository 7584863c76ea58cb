/-
  What an act leaves, whatever it is: no statement is proved here.
-/
import Derived.Test.YtdjkdkekcjmokaaRfT
namespace Go.Proofs.Ytdjkdkekcjmokaa
open Go.ChangeShapes Go.WideShapes Go.ChangeAt Go.RowKit
set_option linter.unusedVariables false

theorem do_any {w : World} {g pg y q k : Nat} {S : DS} {p : PS} {F R : Nat → Prop} (h : Bth w g pg y q S p F R k) (hk : k ≤ 100) (x : AC) (hx : x.ok w) (hnil : x.ka = none → x.kc = 0) (hb : x.kn * 8 ≤ 140737488355328)
    (hK : ∀ z : Addr, 0 < x.kn → x.ka = some z → ¬ Foot pg q F R z.block) :
    Calls Try.prog 8 #[.pointer (some ⟨g, 0, none⟩), .pointer (some ⟨y, 0, none⟩), .pointer (some ⟨pg, 0, none⟩), .pointer (some ⟨q, 0, none⟩), .agg x.cs.toArray] w fun e w' => e = .returned (.bool true) ∧ Done w w' g pg y q k F R := by
  have hm := among_lt x.d 11 (by decide)
  generalize hc : among x.d 11 = m at hm
  by_cases h5 : m < 5
  · exact do_write h hk x m h5 hc
  by_cases e5 : m = 5
  · exact do_force h hk x (hc.trans e5)
  by_cases e6 : m = 6
  · exact do_flush h hk x (hc.trans e6)
  by_cases e7 : m = 7
  · exact do_crash h hk x hx hnil hb hK (hc.trans e7)
  by_cases e8 : m = 8
  · exact do_limit h hk x hx.t (hc.trans e8)
  by_cases e9 : m = 9
  · exact do_restore h hk x (hc.trans e9)
  have e10 : among x.d 11 = 10 := by omega
  by_cases t0 : x.t < 0
  · exact do_load_out h hk x (.inl t0) e10
  by_cases t1 : (S.n : Int) < x.t
  · exact do_load_out h hk x (.inr t1) e10
  by_cases t2 : x.t = S.n
  · exact do_load_end h hk x t2 e10
  · exact do_load_in h hk x x.t.toNat (by omega) (by omega) e10
end Go.Proofs.Ytdjkdkekcjmokaa
