/-
  All flocks fed for a day: the field behind each flock, the visits.
-/
import Derived.Test.YtaioflkonpommaaDoorFdM
namespace Go.Proofs.YtaioflkonpommaaDoor
open Go Go.RowKit

def fdA (f : Fd) (g : Nat → Int) (F : Nat → Nat → Int) : Nat → Fd
  | 0 => f
  | i + 1 => fdF (fdA f g F i) g (F i) (fdN (fdA f g F i) g (F i))
def fdAR (f : Fd) (g : Nat → Int) (F : Nat → Nat → Int) : Nat → List (Nat → Int)
  | 0 => []
  | i + 1 => fdAR f g F i ++ fdR (i : Int) (fdA f g F i) g (F i) (fdN (fdA f g F i) g (F i))
theorem fdA_ok {f : Fd} {g : Nat → Int} {F : Nat → Nat → Int} {n : Nat} (hf : f.Wf) (hok : okF f = true) (hF : ∀ i, i < n → flockOk f (F i) = true) : ∀ i, i ≤ n → okF (fdA f g F i) = true ∧ (fdA f g F i).Wf
  | 0, _ => ⟨hok, hf⟩
  | i + 1, hi => by
    obtain ⟨h1, h2⟩ := fdA_ok (g := g) hf hok hF i (by omega)
    exact fd_out h2 h1 (flock_hunger (hF i (by omega)))
theorem fdA_size (f : Fd) (g : Nat → Int) (F : Nat → Nat → Int) : ∀ i, (fdA f g F i).W = f.W ∧ (fdA f g F i).H = f.H
  | 0 => ⟨rfl, rfl⟩
  | i + 1 => by
    obtain ⟨h1, h2⟩ := fdA_size f g F i
    obtain ⟨h3, h4⟩ := fdSt_size (fdA f g F i) g (F i) (fdN (fdA f g F i) g (F i))
    exact ⟨h3.trans h1, h4.trans h2⟩
theorem fdAR_len (f : Fd) (g : Nat → Int) (F : Nat → Nat → Int) : ∀ i, (fdAR f g F i).length ≤ 4 * i
  | 0 => Nat.le_refl _
  | i + 1 => by
    have h1 := fdAR_len f g F i
    have h2 := fdN_le (fdA f g F i) g (F i)
    show (fdAR f g F i ++ fdR (i : Int) (fdA f g F i) g (F i) (fdN (fdA f g F i) g (F i))).length ≤ _
    rw [List.length_append, fdR_len]; omega
theorem scells_flat (ks : List IntKind) : ∀ (S R : List (Nat → Int)), (scells ks (R ++ S).length (rowsF (R ++ S))).toList = (scells ks R.length (rowsF R)).toList ++ (S.map (rcells ks)).flatten
  | [], R => by simp
  | r :: S, R => by
    rw [show R ++ r :: S = (R ++ [r]) ++ S by simp, scells_flat ks S (R ++ [r]), scells_snoc]
    simp [List.append_assoc]
theorem scells_app (ks : List IntKind) (R S : List (Nat → Int)) : (scells ks (R ++ S).length (rowsF (R ++ S))).toList = (scells ks R.length (rowsF R)).toList ++ (scells ks S.length (rowsF S)).toList := by
  have h := scells_flat ks S []
  rw [scells_flat ks S R, List.nil_append] at *
  rw [h]
  simp [scells]
theorem own_lt_ne {w : World} {base : Nat} {e : TypeId} {size n : Nat} {v : Value} {xs : List Value} (h : w.ownsRow base e size v n xs) {r : Nat} (hr : w.heap.size ≤ r) : v.ownBlock = none ∨ v.ownBlock ≠ some r := by
  cases hv : v.ownBlock with
  | none => exact .inl rfl
  | some b => exact .inr (fun e => by cases e; have := (h.lt r hv).2; omega)
theorem SO.grownV {ks : List IntKind} {t : TypeId} {lo : Nat} {w w' : World} {p : Option Addr} {n : Nat} {F : Nat → Nat → Int} {row : Option Nat} (h : SO ks t lo w p n F) (hg : w.grownBy w' row) (hp : ∀ b, p = some ⟨b, 0, none⟩ → some b ≠ row) : SO ks t lo w' p n F := by
  rcases h with h | ⟨b, cs, h1, h2, h3, B, h5⟩
  · exact .inl h
  · exact .inr ⟨b, cs, h1, h2, h3, by unfold Blk; rw [hg.block b B.lt (hp b h1)]; exact B, h5⟩
theorem SO.insV {ks : List IntKind} {t : TypeId} {lo b n : Nat} {w : World} {F : Nat → Nat → Int} (h : SO ks t lo w (some ⟨b, 0, none⟩) n F) : InS w b 0 n ks F := by
  rcases h.inS with h0 | ⟨b2, o2, e, _, _, I⟩
  · exact fun i hi => absurd hi (by omega)
  · cases e; exact I
/-- What feeding all flocks answers. -/
def FaP (f : Fd) (g : Nat → Int) (F : Nat → Nat → Int) (n : Nat) (w : World) (e : Ending) (w' : World) : Prop :=
  ∃ v, e = .returned (.tuple #[.agg (fcells (fdA f g F n)), v]) ∧ w'.ownsRow w.heap.size 32 3 v (fdAR f g F n).length (scells ksVisit (fdAR f g F n).length (rowsF (fdAR f g F n))).toList ∧ Below w.heap.size w w'
end Go.Proofs.YtaioflkonpommaaDoor
