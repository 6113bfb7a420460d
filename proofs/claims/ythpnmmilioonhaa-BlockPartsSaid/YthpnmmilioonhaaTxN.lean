/- Plain: the document's Read of a transaction, place by place. -/
import Derived.Test.YthpnmmilioonhaaTxU
namespace Go.Proofs.Ythpnmmilioonhaa
def partR : Nat → TxV → Rd TxV
  | 0, T => mapR (fun z => { T with exp := z }) u32R
  | 1, T => mapR (fun l => { T with ins := l }) (manyR ptR)
  | 2, T => mapR (fun l => { T with outs := l }) (manyR outR)
  | 3, T => mapR (fun x => { T with anchor := x.1, nulls := x.2 }) nullR
  | 4, T => mapR (fun l => { T with notes := l }) (manyR keyR)
  | _, T => mapR (fun z => { T with bal := z }) i64R
def goR : Nat → TxV → Rd TxV
  | 0, T => fun s => .ok (T, s)
  | m + 1, T => fun s => match partR (5 - m) T s with
    | .error e => .error e
    | .ok (T', r) => goR m T' r
theorem goR_tx (s : List UInt8) : goR 6 noTx s = txR s := by
  unfold txR
  simp only [goR, partR, mapR, thenR, Nat.sub_self, show 5 - 4 = 1 from rfl, show 5 - 3 = 2 from rfl, show 5 - 2 = 3 from rfl, show 5 - 1 = 4 from rfl, show 5 - 0 = 5 from rfl]
  cases u32R s with
  | error e => rfl
  | ok x =>
    obtain ⟨z, r⟩ := x
    simp only []
    cases manyR ptR r with
    | error e => rfl
    | ok x =>
      obtain ⟨l1, r⟩ := x
      simp only []
      cases manyR outR r with
      | error e => rfl
      | ok x =>
        obtain ⟨l2, r⟩ := x
        simp only []
        cases nullR r with
        | error e => rfl
        | ok x =>
          obtain ⟨l3, r⟩ := x
          simp only []
          cases manyR keyR r with
          | error e => rfl
          | ok x =>
            obtain ⟨l4, r⟩ := x
            simp only []
            cases i64R r with
            | error e => rfl
            | ok x => rfl
theorem errs_part : ∀ p T, Errs (partR p T)
  | 0, _ => (errs_get 4).map.map
  | 1, _ => (errs_many (errs_key.then_ fun _ => (errs_get 4).map)).map
  | 2, _ => (errs_many ((errs_get 8).map.then_ fun _ => errs_key)).map
  | 3, _ => (errs_num.then_ fun n => (errs_anc n).then_ fun _ => errs_key.list n).map.map
  | 4, _ => (errs_many errs_key).map
  | _ + 5, _ => (errs_get 8).map.map
/-- what is left is no longer -/
def Short {α : Type} (R : Rd α) : Prop := ∀ s a r, R s = .ok (a, r) → r.length ≤ s.length
theorem Good.short {α : Type} {W : α → List UInt8} {R : Rd α} {V : α → Prop} (h : Good W R V) : Short R := fun s a r e => by
  rw [(h.bwd _ _ _ e).2, List.length_append]
  omega
theorem Short.map {α β : Type} {f : α → β} {R : Rd α} (h : Short R) : Short (mapR f R) := fun s b r e => by
  unfold mapR at e
  split at e
  · cases e
  · rename_i a r1 e1
    injection e with e
    injection e with e2 e3
    exact e3 ▸ h _ _ _ e1
theorem short_part : ∀ p T, Short (partR p T)
  | 0, _ => good_u32.short.map
  | 1, _ => good_pt.many.short.map
  | 2, _ => good_out.many.short.map
  | 3, _ => good_null.short.map
  | 4, _ => good_key.many.short.map
  | _ + 5, _ => good_i64.short.map
end Go.Proofs.Ythpnmmilioonhaa
