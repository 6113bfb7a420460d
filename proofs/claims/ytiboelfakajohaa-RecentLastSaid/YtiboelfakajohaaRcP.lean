/- RecentLast: plain: just the last five distinct ones are kept. -/
import Derived.Test.YtiboelfakajohaaLRc
namespace Go.Proofs.Ytiboelfakajohaa
/-- the distinct ones, the newest one of each name, newest first -/
def distL : List ItV → List ItV
  | [] => []
  | x :: h => x :: (distL h).filter fun y => !(decide (y.1 = x.1))
def hasN (l : List ItV) (k : K32) : Prop := ∃ y ∈ l, y.1 = k
theorem distL_nodup : ∀ h : List ItV, (distL h).Pairwise fun x y => x.1 ≠ y.1
  | [] => List.Pairwise.nil
  | x :: h => by
    rw [distL, List.pairwise_cons]
    refine ⟨fun y hy => ?_, (distL_nodup h).filter _⟩
    have := (List.mem_filter.1 hy).2
    simp only [Bool.not_eq_true', decide_eq_false_iff_not] at this
    exact fun e => this e.symm
theorem take_filter (k : K32) : ∀ (D : List ItV) (n : Nat), D.Pairwise (fun x y => x.1 ≠ y.1) → ((D.take (n + 1)).filter fun y => !(decide (y.1 = k))).take n = (D.filter fun y => !(decide (y.1 = k))).take n
  | [], n, _ => by simp
  | y :: D, n, h => by
    rw [List.pairwise_cons] at h
    rw [List.take_succ_cons]
    by_cases hy : y.1 = k
    · have e1 : ∀ z ∈ D, (!(decide (z.1 = k))) = true := fun z hz => by
        have := h.1 z hz
        simp only [Bool.not_eq_true', decide_eq_false_iff_not]
        exact fun e => this (hy.trans e.symm)
      rw [List.filter_cons_of_neg (by simp [hy]), List.filter_cons_of_neg (by simp [hy]), List.filter_eq_self.2 e1, List.filter_eq_self.2 (fun z hz => e1 z (List.mem_of_mem_take hz)), List.take_take, Nat.min_self]
    · rw [List.filter_cons_of_pos (by simp [hy]), List.filter_cons_of_pos (by simp [hy])]
      cases n with
      | zero => simp
      | succ n => rw [List.take_succ_cons, List.take_succ_cons, take_filter k D n h.2]
/-- what is there when so much was put -/
def lastL (h : List ItV) : List ItV := ((distL h).take 5).reverse
theorem lastL_put (h : List ItV) (k : K32) (now : IntV .u64) : putI (lastL h) k now = lastL ((k, now) :: h) := by
  unfold putI addI lastL
  rw [List.filter_reverse]
  have e1 : (((distL h).take 5).filter fun x => !(decide (x.1 = k))).reverse ++ [(k, now)] = ((k, now) :: ((distL h).take 5).filter fun x => !(decide (x.1 = k))).reverse := by rw [List.reverse_cons]
  rw [e1, List.length_reverse, ← List.reverse_take]
  congr 1
  rw [distL, List.take_succ_cons, List.take_succ_cons, take_filter k _ 4 (distL_nodup h)]
theorem distL_snoc (x : ItV) : ∀ A : List ItV, (hasN (distL A) x.1 → distL (A ++ [x]) = distL A) ∧ (¬ hasN (distL A) x.1 → distL (A ++ [x]) = distL A ++ [x])
  | [] => ⟨fun ⟨_, hy, _⟩ => absurd hy (by simp [distL]), fun _ => rfl⟩
  | a :: A => by
    have ih := distL_snoc x A
    rw [List.cons_append, distL, distL]
    by_cases ha : a.1 = x.1
    · refine ⟨fun _ => ?_, fun hn => absurd ⟨a, by simp, ha⟩ hn⟩
      by_cases hx : hasN (distL A) x.1
      · rw [ih.1 hx]
      · rw [ih.2 hx, List.filter_append, List.filter_cons_of_neg (by simp [ha])]
        simp
    · have hh : hasN (a :: (distL A).filter fun y => !(decide (y.1 = a.1))) x.1 ↔ hasN (distL A) x.1 := by
        unfold hasN
        constructor
        · rintro ⟨y, hy, e⟩
          rcases List.mem_cons.1 hy with rfl | hy
          · exact absurd e ha
          · exact ⟨y, (List.mem_filter.1 hy).1, e⟩
        · rintro ⟨y, hy, e⟩
          exact ⟨y, List.mem_cons_of_mem _ (List.mem_filter.2 ⟨hy, by simp only [Bool.not_eq_true', decide_eq_false_iff_not]; exact fun q => ha (q.symm.trans e)⟩), e⟩
      rw [hh]
      refine ⟨fun hx => by rw [ih.1 hx], fun hx => ?_⟩
      rw [ih.2 hx, List.filter_append, List.filter_cons_of_pos (by simp only [Bool.not_eq_true', decide_eq_false_iff_not]; exact fun q => ha q.symm)]
      simp
theorem distL_prefix : ∀ (B A : List ItV), ∃ C, distL (A ++ B) = distL A ++ C
  | [], A => ⟨[], by simp⟩
  | b :: B, A => by
    obtain ⟨C, hC⟩ := distL_prefix B (A ++ [b])
    rw [show A ++ b :: B = (A ++ [b]) ++ B by simp]
    by_cases hx : hasN (distL A) b.1
    · exact ⟨C, by rw [hC, (distL_snoc b A).1 hx]⟩
    · exact ⟨[b] ++ C, by rw [hC, (distL_snoc b A).2 hx, List.append_assoc]⟩
theorem distL_names {A : List ItV} {k : K32} : hasN (distL A) k ↔ hasN A k := by
  induction A with
  | nil => exact Iff.rfl
  | cons a A ih =>
    rw [distL]
    unfold hasN at *
    constructor
    · rintro ⟨y, hy, e⟩
      rcases List.mem_cons.1 hy with rfl | hy
      · exact ⟨y, by simp, e⟩
      · obtain ⟨z, hz, ez⟩ := ih.1 ⟨y, (List.mem_filter.1 hy).1, e⟩
        exact ⟨z, List.mem_cons_of_mem _ hz, ez⟩
    · rintro ⟨y, hy, e⟩
      by_cases ha : a.1 = k
      · exact ⟨a, by simp, ha⟩
      · rcases List.mem_cons.1 hy with rfl | hy
        · exact absurd e ha
        · obtain ⟨z, hz, ez⟩ := ih.2 ⟨y, hy, e⟩
          exact ⟨z, List.mem_cons_of_mem _ (List.mem_filter.2 ⟨hz, by simp only [Bool.not_eq_true', decide_eq_false_iff_not]; exact fun q => ha (q.symm.trans ez)⟩), ez⟩
/-- the names of s are those of the first five -/
structure SeenS (f : Int → K32) (A : List ItV) (s : List Int) : Prop where
  names : ((distL A).take 5).map (fun x => x.1) = s.map f
theorem SeenS.len {f : Int → K32} {A : List ItV} {s : List Int} (h : SeenS f A s) : s.length = min 5 (distL A).length := by
  have := congrArg List.length h.names
  simpa using this.symm
theorem SeenS.nil (f : Int → K32) : SeenS f [] [] := ⟨rfl⟩
/-- one that was not seen yet, while there is room: it is there, and its own time counts -/
theorem SeenS.fresh {f : Int → K32} {A B : List ItV} {s : List Int} {z : Int} {t : IntV .u64} (h : SeenS f A s) (hf : ∀ y ∈ s, f y = f z → y = z) (hz : z ∉ s) (hl : s.length < 5) (now : Int) :
    hasI (lastL (A ++ (f z, t) :: B)) (f z) now = youngF (f z, t) now ∧ SeenS f (A ++ [(f z, t)]) (s ++ [z]) := by
  have hlen := h.len
  have hd : (distL A).length < 5 := by omega
  have ht : (distL A).take 5 = distL A := List.take_of_length_le (by omega)
  have hn : ¬ hasN (distL A) (f z) := by
    rintro ⟨y, hy, e⟩
    have h1 : y.1 ∈ s.map f := by rw [← h.names, ht]; exact List.mem_map.2 ⟨y, hy, rfl⟩
    obtain ⟨v, hv, ev⟩ := List.mem_map.1 h1
    exact hz (hf v hv (ev.trans e) ▸ hv)
  have hs := (distL_snoc (f z, t) A).2 hn
  refine ⟨?_, ⟨?_⟩⟩
  · obtain ⟨C, hC⟩ := distL_prefix B (A ++ [(f z, t)])
    rw [show A ++ (f z, t) :: B = (A ++ [(f z, t)]) ++ B by simp]
    have hp := distL_nodup ((A ++ [(f z, t)]) ++ B)
    rw [hC, hs] at hp
    unfold lastL hasI
    rw [List.any_reverse, hC, hs, List.append_assoc, List.take_append, ht, List.any_append]
    have h0 : ((distL A).any fun x => decide (x.1 = f z) && youngF x now) = false := by
      rw [List.any_eq_false]
      intro y hy hq
      rw [Bool.and_eq_true, decide_eq_true_eq] at hq
      exact hn ⟨y, hy, hq.1⟩
    rw [h0, Bool.false_or]
    obtain ⟨m, hm⟩ : ∃ m, 5 - (distL A).length = m + 1 := ⟨4 - (distL A).length, by omega⟩
    rw [hm, List.singleton_append, List.take_succ_cons, List.any_cons]
    have h2 : ((C.take m).any fun x => decide (x.1 = f z) && youngF x now) = false := by
      rw [List.any_eq_false]
      intro y hy hq
      rw [Bool.and_eq_true, decide_eq_true_eq] at hq
      rw [List.append_assoc, List.pairwise_append] at hp
      have := hp.2.1
      rw [List.singleton_append, List.pairwise_cons] at this
      exact this.1 y (List.mem_of_mem_take hy) hq.1.symm
    rw [h2]
    simp
  · rw [hs, List.take_append, ht, List.map_append, List.map_append, ← h.names, ht]
    obtain ⟨m, hm⟩ : ∃ m, 5 - (distL A).length = m + 1 := ⟨4 - (distL A).length, by omega⟩
    rw [hm]
    simp
/-- one that was seen, or for which there is no room, changes nothing -/
theorem SeenS.skip {f : Int → K32} {A : List ItV} {s : List Int} {z : Int} {t : IntV .u64} (h : SeenS f A s) (hz : z ∈ s ∨ ¬ s.length < 5) : SeenS f (A ++ [(f z, t)]) s := by
  refine ⟨?_⟩
  by_cases hn : hasN (distL A) (f z)
  · rw [(distL_snoc (f z, t) A).1 hn]
    exact h.names
  · have hlen := h.len
    rcases hz with hz | hz
    · exfalso
      have h1 : f z ∈ ((distL A).take 5).map (fun x => x.1) := by rw [h.names]; exact List.mem_map.2 ⟨z, hz, rfl⟩
      obtain ⟨y, hy, e⟩ := List.mem_map.1 h1
      exact hn ⟨y, List.mem_of_mem_take hy, e⟩
    · rw [(distL_snoc (f z, t) A).2 hn, List.take_append_of_le_length (by omega)]
      exact h.names
/-- what was not seen is not there -/
theorem SeenS.none_ {f : Int → K32} {A : List ItV} {s : List Int} {z : Int} (h : SeenS f A s) (hf : ∀ y ∈ s, f y = f z → y = z) (hz : z ∉ s) (now : Int) : hasI (lastL A) (f z) now = false := by
  unfold lastL hasI
  rw [List.any_reverse, List.any_eq_false]
  intro y hy hq
  rw [Bool.and_eq_true, decide_eq_true_eq] at hq
  have h1 : y.1 ∈ s.map f := by rw [← h.names]; exact List.mem_map.2 ⟨y, hy, rfl⟩
  obtain ⟨v, hv, ev⟩ := List.mem_map.1 h1
  exact hz (hf v hv (ev.trans hq.1) ▸ hv)
end Go.Proofs.Ytiboelfakajohaa
