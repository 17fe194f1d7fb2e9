/- The seeds of a parting (plain): of all pairs of entries, in order, the first that wastes most. -/
import Derived.Test.YtbnlgmcjklfcoaaBest
import Derived.Test.YtbnlgmcjklfcoaaSpecEntries
namespace Go.Proofs.Ytbnlgmcjklfcoaa
open Go.RowKit

def wasteAt (vs : List EVal) (dd i j : Nat) : Int :=
  match vs[i]?, vs[j]? with
  | some u, some v => areaTo (mins u.1 v.1) (maxs u.2.1 v.2.1) dd - areaTo u.1 u.2.1 dd - areaTo v.1 v.2.1 dd
  | _, _ => 0
theorem wasteAt_of {vs : List EVal} {dd i j : Nat} {u v : EVal} (hu : vs[i]? = some u) (hv : vs[j]? = some v) : wasteAt vs dd i j = areaTo (mins u.1 v.1) (maxs u.2.1 v.2.1) dd - areaTo u.1 u.2.1 dd - areaTo v.1 v.2.1 dd := by unfold wasteAt; rw [hu, hv]
def stepS (vs : List EVal) (dd : Nat) (s : Nat × Nat) (i j : Nat) : Nat × Nat := if wasteAt vs dd s.1 s.2 < wasteAt vs dd i j then (i, j) else s
def seedIn (vs : List EVal) (dd : Nat) (s : Nat × Nat) (i : Nat) : Nat → Nat × Nat
  | 0 => s
  | m + 1 => stepS vs dd (seedIn vs dd s i m) i (i + 1 + m)
def seedOut (vs : List EVal) (dd n : Nat) : Nat → Nat × Nat
  | 0 => (0, 1)
  | i + 1 => seedIn vs dd (seedOut vs dd n i) i (n - (i + 1))
theorem stepS_yes {vs : List EVal} {dd i j a b : Nat} (h : wasteAt vs dd a b < wasteAt vs dd i j) : stepS vs dd (a, b) i j = (i, j) := by unfold stepS; rw [if_pos h]
theorem stepS_no {vs : List EVal} {dd i j a b : Nat} (h : ¬ wasteAt vs dd a b < wasteAt vs dd i j) : stepS vs dd (a, b) i j = (a, b) := by unfold stepS; rw [if_neg h]
theorem seedIn_lt {vs : List EVal} {dd n i : Nat} {s : Nat × Nat} (h1 : s.1 < n) (h2 : s.2 < n) (hi : i < n) : ∀ m, m ≤ n - (i + 1) → (seedIn vs dd s i m).1 < n ∧ (seedIn vs dd s i m).2 < n
  | 0, _ => ⟨h1, h2⟩
  | m + 1, hm => by
    have := seedIn_lt (vs := vs) (dd := dd) h1 h2 hi m (by omega)
    unfold seedIn stepS
    split
    · exact ⟨hi, by show i + 1 + m < n; omega⟩
    · exact this
theorem seedOut_lt {vs : List EVal} {dd n : Nat} (h : 2 ≤ n) : ∀ i, i ≤ n → (seedOut vs dd n i).1 < n ∧ (seedOut vs dd n i).2 < n
  | 0, _ => ⟨by show 0 < n; omega, by show 1 < n; omega⟩
  | i + 1, hi => by
    have := seedOut_lt (vs := vs) (dd := dd) h i (by omega)
    exact seedIn_lt this.1 this.2 (by omega) _ (Nat.le_refl _)

/-- The code of entries that are to be parted. -/
def enoughF (vs : List EVal) (d : Int) : Int := if entsF vs d ≠ 0 then entsF vs d else if vs.length < 4 then 2 else 0
theorem enoughF_ents {vs : List EVal} {d : Int} (h : entsF vs d ≠ 0) : enoughF vs d = entsF vs d := by unfold enoughF; rw [if_pos h]
theorem enoughF_few {vs : List EVal} {d : Int} (h : entsF vs d = 0) (h2 : vs.length < 4) : enoughF vs d = 2 := by unfold enoughF; rw [if_neg (by simp [h]), if_pos h2]
theorem enoughF_ok {vs : List EVal} {d : Int} (h : entsF vs d = 0) (h2 : ¬ vs.length < 4) : enoughF vs d = 0 := by unfold enoughF; rw [if_neg (by simp [h]), if_neg h2]
theorem enoughF_zero {vs : List EVal} {d : Int} (h : enoughF vs d = 0) : entsF vs d = 0 ∧ 4 ≤ vs.length := by
  by_cases h1 : entsF vs d = 0
  · by_cases h2 : vs.length < 4
    · rw [enoughF_few h1 h2] at h; omega
    · exact ⟨h1, by omega⟩
  · rw [enoughF_ents h1] at h; exact absurd h h1

end Go.Proofs.Ytbnlgmcjklfcoaa
