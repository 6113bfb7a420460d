/- Plain: what was applied is undone; coins that are not spent stay. -/
import Derived.Test.YtkjgmhamglhggaaCoiX
namespace Go.Proofs.Ytkjgmhamglhggaa
open Go.RowKit
theorem made_pts (id : K32) (h : IntV .u32) (b : Bool) : ∀ (os : List (IntV .i64 × K32)), ((madeC id h b 0 os).map CoinV.at_).reverse = ptsR id os.length := by
  have key : ∀ (os : List (IntV .i64 × K32)) (n i : Nat), (∀ k, k < os.length → True) → n = os.length → ((madeC id h b i os).map CoinV.at_).reverse ++ ptsR id i = ptsR id (i + n) := by
    intro os
    induction os with
    | nil => intro n i _ hn; subst hn; rfl
    | cons o os ih =>
      intro n i _ hn
      subst hn
      unfold madeC
      rw [List.map_cons, List.reverse_cons, List.append_assoc]
      have := ih os.length (i + 1) (fun _ _ => trivial) rfl
      rw [show ([(id, toU32 i)] : List PtV) ++ ptsR id i = ptsR id (i + 1) from rfl, this, List.length_cons]
      congr 1
      omega
  intro os
  have := key os os.length 0 (fun _ _ => trivial) rfl
  rw [Nat.zero_add] at this
  rw [← this]
  show _ = _ ++ []
  rw [List.append_nil]
theorem apply_cases (l : List CoinV) (T : TxV) (id : K32) (h : IntV .u32) :
    (applyR l T id h = (([], []), 160) ∨ applyR l T id h = (([], []), 4)) ∨ ∃ m sp u, takeF l T h = some (m, sp) ∧ addC CoinV.at_ ltP m (madeC id h (coinF T) 0 T.outs) = some u ∧ applyR l T id h = ((u, sp), 0) := by
  unfold applyR applyF
  cases ht : takeF l T h with
  | none => exact .inl (.inl rfl)
  | some x =>
    obtain ⟨m, sp⟩ := x
    simp only
    cases ha : addC CoinV.at_ ltP m (madeC id h (coinF T) 0 T.outs) with
    | none => exact .inl (.inr rfl)
    | some u => exact .inr ⟨m, sp, u, rfl, ha, rfl⟩
theorem apply_back {l u sp : List CoinV} {T : TxV} {id : K32} {h : IntV .u32} (hr : RisesK l) (hx : applyR l T id h = ((u, sp), 0)) :
    RisesK u ∧ u.length + sp.length = l.length + T.outs.length ∧ sp.length ≤ l.length ∧ undoR u id T.outs.length sp = (l, 0) := by
  rcases apply_cases l T id h with (e | e) | ⟨m, sp', u', ht, ha, e⟩
  · rw [e] at hx; cases hx
  · rw [e] at hx; cases hx
  · rw [e] at hx
    obtain ⟨rfl, rfl⟩ : u' = u ∧ sp' = sp := by cases hx; exact ⟨rfl, rfl⟩
    have h1 : RisesK m ∧ m.length + sp'.length = l.length ∧ addC CoinV.at_ ltP m sp'.reverse = some l := by
      unfold takeF at ht
      split at ht
      · obtain ⟨rfl, rfl⟩ := Prod.mk.inj (Option.some.inj ht)
        exact ⟨hr, rfl, rfl⟩
      · obtain ⟨i1, _, i3, i4⟩ := take_back ordP _ _ _ _ hr ht
        exact ⟨i1, i3, i4⟩
    obtain ⟨a1, a2, a3⟩ := add_back ordP _ _ _ h1.1 ha
    rw [made_pts] at a3
    rw [madeC_len] at a2
    refine ⟨a1, by omega, by omega, ?_⟩
    unfold undoR undoF
    rw [a3]
    show (match endA (addC CoinV.at_ ltP m sp'.reverse) with | .error z => (([], z) : List CoinV × Int) | .ok m => (m, 0)) = _
    rw [h1.2.2]
    rfl
/-- what is found behind Apply -/
theorem apply_kept {l u sp : List CoinV} {T : TxV} {id : K32} {h : IntV .u32} {p : PtV} {c : CoinV} (hx : applyR l T id h = ((u, sp), 0)) (hf : findK l p = some c) (hs : ∀ d ∈ sp, d.at_ ≠ p) : findK u p = some c := by
  rcases apply_cases l T id h with (e | e) | ⟨m, sp', u', ht, ha, e⟩
  · rw [e] at hx; cases hx
  · rw [e] at hx; cases hx
  · rw [e] at hx
    obtain ⟨rfl, rfl⟩ : u' = u ∧ sp' = sp := by cases hx; exact ⟨rfl, rfl⟩
    have h1 : findK m p = some c := by
      unfold takeF at ht
      split at ht
      · obtain ⟨rfl, rfl⟩ := Prod.mk.inj (Option.some.inj ht)
        exact hf
      · rw [← hf]
        exact take_kept _ _ _ _ ht hs
    exact add_kept _ _ _ ha h1
theorem apply_new {l u sp : List CoinV} {T : TxV} {id : K32} {h : IntV .u32} {p : PtV} {d : CoinV} (hx : applyR l T id h = ((u, sp), 0)) (hf : findK l p = none) (hd : findK u p = some d) : d.at_.1 = id := by
  rcases apply_cases l T id h with (e | e) | ⟨m, sp', u', ht, ha, e⟩
  · rw [e] at hx; cases hx
  · rw [e] at hx; cases hx
  · rw [e] at hx
    obtain ⟨rfl, rfl⟩ : u' = u ∧ sp' = sp := by cases hx; exact ⟨rfl, rfl⟩
    have h1 : findK m p = none := by
      unfold takeF at ht
      split at ht
      · obtain ⟨rfl, rfl⟩ := Prod.mk.inj (Option.some.inj ht)
        exact hf
      · exact take_found _ _ _ _ ht hf
    exact (made_at id h (coinF T) T.outs 0 d (add_found _ _ _ ha h1 d hd)).1
theorem apply_len (l : List CoinV) (T : TxV) (id : K32) (h : IntV .u32) : (applyR l T id h).1.1.length ≤ l.length + T.outs.length ∧ (applyR l T id h).1.2.length ≤ l.length + T.ins.length := by
  rcases apply_cases l T id h with (e | e) | ⟨m, sp, u, ht, ha, e⟩
  · rw [e]; simp
  · rw [e]; simp
  · rw [e]
    have key : ∀ (cs s r : List CoinV), addC CoinV.at_ ltP s cs = some r → r.length = s.length + cs.length := by
      intro cs
      induction cs with
      | nil => intro s r h; unfold addC at h; rw [Option.some.inj h]; rfl
      | cons c cs ih =>
        intro s r h
        unfold addC at h
        split at h
        · cases h
        · have := ih _ _ h
          rw [putC_len] at this
          rw [this, List.length_cons]
          omega
    have k2 : ∀ (ps : List PtV) (s s' q : List CoinV), takeC CoinV.at_ (fun c => ripeF c h) s ps = some (s', q) → s'.length ≤ s.length ∧ q.length = ps.length := by
      intro ps
      induction ps with
      | nil =>
        intro s s' q h1
        unfold takeC at h1
        obtain ⟨rfl, rfl⟩ := Prod.mk.inj (Option.some.inj h1)
        exact ⟨Nat.le_refl _, rfl⟩
      | cons p ps ih =>
        intro s s' q h1
        unfold takeC at h1
        cases hf : findC CoinV.at_ s p with
        | none => rw [hf] at h1; cases h1
        | some c =>
          rw [hf] at h1
          simp only at h1
          split at h1
          · cases hr : takeC CoinV.at_ (fun c => ripeF c h) (delC CoinV.at_ s p) ps with
            | none => rw [hr] at h1; cases h1
            | some x =>
              rw [hr, Option.map_some] at h1
              obtain ⟨rfl, rfl⟩ := Prod.mk.inj (Option.some.inj h1)
              have := ih _ _ _ hr
              have hd := del_len s hf
              simp only [List.length_cons]
              omega
          · cases h1
    have hk := key _ _ _ ha
    rw [madeC_len] at hk
    have hm : m.length ≤ l.length ∧ sp.length ≤ T.ins.length := by
      unfold takeF at ht
      split at ht
      · obtain ⟨rfl, rfl⟩ := Prod.mk.inj (Option.some.inj ht)
        exact ⟨Nat.le_refl _, Nat.zero_le _⟩
      · have := k2 _ _ _ _ ht
        omega
    simp only
    omega
/-- a list of transactions lies so -/
structure TxsC (w : World) (B : Nat) (A : Option Addr) (c : Nat) (l : List TxA) : Prop where
  row : RowIn TxA.cells 38 w B A c l
  each : ∀ t ∈ l, t.In w B
theorem TxsC.below {w w' : World} {B c : Nat} {A : Option Addr} {l : List TxA} (h : TxsC w B A c l) (hb : Below B w w') : TxsC w' B A c l := ⟨h.row.below hb, fun t ht => (h.each t ht).below hb⟩
theorem TxsC.more {w : World} {B B' c : Nat} {A : Option Addr} {l : List TxA} (h : TxsC w B A c l) (hB : B ≤ B') : TxsC w B' A c l := ⟨h.row.more hB, fun t ht => (h.each t ht).more hB⟩
theorem tyTxC : RowTy Try.prog 60 30 TxA.cells 38 := ⟨Try.underlying60, by kernel_rfl, TxA.len, TxA.one, Try.isAgg30, by omega⟩
/-- the law's bound -/
theorem coheavy_no {l : List CoinV} {T : TxV} (h : cheavyF l T = false) : l.length ≤ 100 ∧ T.ins.length ≤ 60 ∧ T.outs.length ≤ 60 := by
  unfold cheavyF at h
  have := of_decide_eq_false h
  omega
end Go.Proofs.Ytkjgmhamglhggaa
