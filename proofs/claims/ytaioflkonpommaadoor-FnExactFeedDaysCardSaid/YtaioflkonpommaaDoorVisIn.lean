/-
  The laws' copies of an argument that is a list of visits.
-/
import Derived.Test.YtaioflkonpommaaDoorVisLaw
import Derived.Test.YtaioflkonpommaaDoorFlkM
namespace Go.Proofs.YtaioflkonpommaaDoor
open Go Go.RowKit Go.WideShapes Go.ChangeShapes Go.Deep

theorem toVisitS_arg (n : Nat) (hn : n ≤ 2 ^ 40) (F : Nat → Nat → Int) (p : Option Addr) (c : Nat) (w : World) (I : InA ksVisit w p n F) : Calls Tryd.prog 34 #[.slice p n c] w fun e w' => ∃ b', e = .returned (.slice (some ⟨b', 0, none⟩) n n) ∧ InS w' b' 0 n ksVisit F ∧ Below w.heap.size w w' := by
  rcases I with rfl | ⟨b, o, rfl, I⟩
  · refine (toVisitS_nilA F p c w).mono ?_
    rintro e w' ⟨b', rfl, _, hB, hb⟩
    exact ⟨b', rfl, hB.inS, hb⟩
  · refine (toVisitS_any n hn F b o c w I).mono ?_
    rintro e w' ⟨b', rfl, _, hB, hb⟩
    exact ⟨b', rfl, hB.inS, hb⟩
end Go.Proofs.YtaioflkonpommaaDoor
