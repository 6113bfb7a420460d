/- KeysTwice: the statement's walk. -/
import Derived.Test.YtklfbconbkbmpaaKeyF
import Derived.Test.YtklfbconbkbmpaaKeyV
import Derived.Test.YtklfbconbkbmpaaKeyD
import Derived.Test.YtklfbconbkbmpaaKeyX
namespace Go.Proofs.Ytklfbconbkbmpaa
open Go.RowKit Go.Sort
/-- Insert, as a reader of its answer sees it -/
theorem insert_in (A : Option Addr) (c : Nat) (l : List K32) (k : K32) (B : Nat) (hl : l.length ≤ 100000) (w : World) (hB : B ≤ w.heap.size) (h : RowIn encK 32 w B A c l) :
    Calls Try.prog 20 #[.slice A l.length c, .agg (bytesA k.1)] w fun e w' => ∃ A' c', e = .returned (.tuple #[.slice A' (insK k l).length c', .bool !(decide (k ∈ l))]) ∧ RowIn encK 32 w' w'.heap.size A' c' (insK k l) ∧ Below w.heap.size w w' :=
  (insert_any A c l k B hl w hB h).mono fun _ _ ⟨_, h1, h2, h3⟩ => by
    obtain ⟨A', c', rfl, hr⟩ := RowIn.of_own encK_len h2
    exact ⟨A', c', h1, hr, h3⟩
theorem remove_in (A : Option Addr) (c : Nat) (l : List K32) (k : K32) (B : Nat) (hl : l.length ≤ 100000) (w : World) (hB : B ≤ w.heap.size) (h : RowIn encK 32 w B A c l) :
    Calls Try.prog 24 #[.slice A l.length c, .agg (bytesA k.1)] w fun e w' => ∃ A' c', e = .returned (.tuple #[.slice A' (l.erase k).length c', .bool (decide (k ∈ l))]) ∧ RowIn encK 32 w' w'.heap.size A' c' (l.erase k) ∧ Below w.heap.size w w' :=
  (remove_any A c l k B hl w hB h).mono fun _ _ ⟨_, h1, h2, h3⟩ => by
    obtain ⟨A', c', rfl, hr⟩ := RowIn.of_own encK_len h2
    exact ⟨A', c', h1, hr, h3⟩
theorem sort_in (A : Option Addr) (c : Nat) (l : List K32) (B : Nat) (w : World) (hl : l.length ≤ 1000000) (hB : B ≤ w.heap.size) (h : RowIn encK 32 w B A c l) :
    Calls Try.prog 31 #[.slice A l.length c] w fun e w' => ∃ A' c', e = .returned (.slice A' (sortK l).length c') ∧ RowIn encK 32 w' w'.heap.size A' c' (sortK l) ∧ Below w.heap.size w w' :=
  (sort_any A c l B w hl hB h).mono fun _ _ ⟨_, h1, h2, h3⟩ => by
    rw [← sortK_len] at h2
    obtain ⟨A', c', rfl, hr⟩ := RowIn.of_own encK_len h2
    exact ⟨A', c', h1, hr, h3⟩
end Go.Proofs.Ytklfbconbkbmpaa
