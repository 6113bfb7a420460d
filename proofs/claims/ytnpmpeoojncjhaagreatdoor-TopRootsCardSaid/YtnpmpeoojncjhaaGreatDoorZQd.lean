import Derived.Lib.AppendZerosOnto
import Derived.Lib.Overlaps
import Derived.Deep.RegionLawGrows
import Derived.Laws.Tables
import Derived.Deep.Cut
import Derived.Deep.CutRange
import Derived.Shelf.SlicesQ.Reverse
import Derived.Test.YtnpmpeoojncjhaaGreatDoorZQc
set_option maxRecDepth 100000
set_option maxHeartbeats 16000000
namespace Go.Proofs.YtnpmpeoojncjhaaGreatDoor
section
def zF : List Int → Int
 | [] => 0
 | a :: l => a + zF l
def dS (s : List aD) : Int := zF (Gd s)
theorem qz : dS [] = 0 := rfl
theorem iB (c : aD) (s : List aD) : dS (c :: s) = c.out.1.1 + dS s := rfl
theorem zR (c : aD) : ∀ s : List aD, dS (iK aD.at_ jO c s) = c.out.1.1 + dS s
 | [] => rfl
 | x :: s => by
  unfold iK
  split
  ·rfl
  ·rw [iB, zR c s, iB]; omega
theorem zU {p : FK} {c : aD} : ∀ s : List aD, gW aD.at_ s p = some c → dS (rq aD.at_ s p) + c.out.1.1 = dS s
 | [], h => by cases h
 | x :: s, h => by
  unfold gW at h
  unfold rq
  by_cases hx : x.at_ = p
  ·rw [List.find?_cons_of_pos (by simpa using hx)] at h
   rw [List.eraseP_cons_of_pos (by simpa using hx), iB]
   cases h
   omega
  ·rw [List.find?_cons_of_neg (by simpa using hx)] at h
   rw [List.eraseP_cons_of_neg (by simpa using hx), iB, iB]
   have := zU s h
   unfold rq at this
   omega
theorem xH {DV : aD → Bool} : ∀ (ps : List FK) (s s' sp : List aD), takeC aD.at_ DV s ps = some (s', sp) → dS s' + dS sp = dS s ∧ s'.length + sp.length = s.length ∧ sp.length = ps.length ∧ (∀ x ∈ s', x ∈ s) ∧ (∀ x ∈ sp, x ∈ s)
 | [], s, s', sp, h => by
  unfold takeC at h
  obtain ⟨rfl, rfl⟩ := Prod.mk.inj (Option.some.inj h)
  exact ⟨by rw [qz]; omega, rfl, rfl, fun _ h => h, fun _ h => by cases h⟩
 | p :: ps, s, s', sp, h => by
  unfold takeC at h
  cases hf : gW aD.at_ s p with
  | none => rw [hf] at h; cases h
  | some c =>
   rw [hf] at h
   simp only at h
   split at h
   ·cases hr : takeC aD.at_ DV (rq aD.at_ s p) ps with
    | none => rw [hr] at h; cases h
    | some x =>
     rw [hr, Option.map_some] at h
     obtain ⟨rfl, rfl⟩ := Prod.mk.inj (Option.some.inj h)
     obtain ⟨i1, i2, i3, i4, i5⟩ := xH ps _ _ _ hr
     have h1 := zU s hf
     have h2 := I8 s hf
     have hd : ∀ x ∈ rq aD.at_ s p, x ∈ s := fun x hx => List.mem_of_mem_eraseP hx
     refine ⟨by rw [iB]; omega, by rw [List.length_cons]; omega, by rw [List.length_cons, List.length_cons, i3], fun x hx => hd x (i4 x hx), fun y hy => ?_⟩
     rcases List.mem_cons.1 hy with rfl | hy
     ·exact vQ hf
     ·exact hd y (i5 y hy)
   ·cases h
theorem zV : ∀ (cs s u : List aD), iX aD.at_ jO s cs = some u → dS u = dS s + dS cs ∧ u.length = s.length + cs.length ∧ (∀ x ∈ u, x ∈ s ∨ x ∈ cs) ∧ (oV s → oV u)
 | [], s, u, h => by
  unfold iX at h
  rw [← Option.some.inj h]
  exact ⟨by rw [qz]; omega, rfl, fun _ h => .inl h, id⟩
 | c :: cs, s, u, h => by
  unfold iX at h
  split at h
  ·cases h
  ·rename_i hn
   obtain ⟨i1, i2, i3, i4⟩ := zV cs _ u h
   rw [zR] at i1
   rw [yl] at i2
   refine ⟨by rw [iB]; omega, by rw [List.length_cons]; omega, fun x hx => ?_, fun hr => i4 (Ae Xz s hr ?_)⟩
   ·rcases i3 x hx with h1 | h1
    ·rcases yj.1 h1 with rfl | h2
     ·exact .inr (List.mem_cons_self)
     ·exact .inl h2
    ·exact .inr (List.mem_cons_of_mem _ h1)
   ·cases hq : gW aD.at_ s c.at_ with
    | none => rfl
    | some y => rw [hq] at hn; exact absurd rfl hn
theorem xI (id : aS) (h : aQ .u32) (b : Bool) : ∀ (os : List (aQ .i64 × aS)) (i : Nat), dS (iw id h b i os) = zF (os.map fun o => o.1.1) ∧ ∀ x ∈ iw id h b i os, x.out ∈ os
 | [], _ => ⟨rfl, fun _ h => by cases h⟩
 | o :: os, i => by
  obtain ⟨i1, i2⟩ := xI id h b os (i + 1)
  unfold iw
  refine ⟨by rw [iB, i1]; rfl, fun x hx => ?_⟩
  rcases List.mem_cons.1 hx with rfl | hx
  ·exact List.mem_cons_self
  ·exact List.mem_cons_of_mem _ (i2 x hx)
theorem tO : ∀ (l : List Int) (t n : Int), gI t l = some n → n = t + zF l ∧ ∀ x ∈ l, dI x = true
 | [], t, n, h => by
  unfold gI at h
  cases h
  exact ⟨by simp [zF], fun _ h => by cases h⟩
 | a :: l, t, n, h => by
  unfold gI at h
  cases ha : aaX t a with
  | none => rw [ha] at h; cases h
  | some s =>
   rw [ha] at h
   obtain ⟨i1, i2⟩ := tO l s n h
   obtain ⟨_, h2, _, h4⟩ := iM ha
   refine ⟨by rw [zF]; omega, fun x hx => ?_⟩
   rcases List.mem_cons.1 hx with rfl | hx
   ·exact h2
   ·exact i2 x hx
theorem wL {l : List aD} {T : dX} {id : aS} {h : aQ .u32} {y : List aD × List aD} (ha : iH l T id h = .ok y) :
 dS y.1 + dS y.2 = dS l + zF (fV T) ∧ y.1.length + y.2.length = l.length + T.outs.length ∧ (∀ x ∈ y.1, x ∈ l ∨ x.out ∈ T.outs) ∧ (∀ x ∈ y.2, x ∈ l) ∧ (oV l → oV y.1) ∧ (gy T = false → y.2.length = T.ins.length) := by
 unfold iH at ha
 cases ht : Aa l T h with
 | none => rw [ht] at ha; cases ha
 | some x =>
  rw [ht] at ha
  simp only at ha
  cases hc : iX aD.at_ jO x.1 (iw id h (gy T) 0 T.outs) with
  | none => rw [hc] at ha; cases ha
  | some r =>
   rw [hc] at ha
   cases ha
   obtain ⟨a1, a2, a3, a4⟩ := zV _ _ _ hc
   obtain ⟨m1, m2⟩ := xI id h (gy T) T.outs 0
   rw [kY] at a2
   have hx : dS x.1 + dS x.2 = dS l ∧ x.1.length + x.2.length = l.length ∧ (∀ z ∈ x.1, z ∈ l) ∧ (∀ z ∈ x.2, z ∈ l) ∧ (oV l → oV x.1) ∧ (gy T = false → x.2.length = T.ins.length) := by
    unfold Aa at ht
    split at ht
    ·rename_i hb
     cases ht
     exact ⟨by show dS l + dS [] = dS l; rw [qz]; omega, rfl, fun _ h => h, fun _ h => absurd h List.not_mem_nil, _root_.id, fun h => by rw [hb] at h; cases h⟩
    ·obtain ⟨i1, i2, i3, i4, i5⟩ := xH T.ins l x.1 x.2 ht
     exact ⟨i1, i2, i4, i5, fun hr => (z8 Xz T.ins l x.1 x.2 hr ht).1, fun _ => i3⟩
   obtain ⟨x1, x2, x3, x4, x5, x6⟩ := hx
   refine ⟨?_, by show r.length + x.2.length = _; omega, fun z hz => ?_, x4, fun hr => a4 (x5 hr), x6⟩
   ·show dS r + dS x.2 = dS l + zF (T.outs.map fun o => o.1.1)
    rw [m1] at a1
    omega
   ·rcases a3 z hz with h1 | h1
    ·exact .inl (x3 z h1)
    ·exact .inr (m2 z h1)
theorem Tj {a b : List Int} {dW f : Int} (h : Tk a b dW = some f) : f = zF a + dW - zF b ∧ dI f = true ∧ (∀ x ∈ a, dI x = true) ∧ (∀ x ∈ b, dI x = true) := by
 unfold Tk at h
 cases ha : gI 0 a with
 | none => rw [ha] at h; cases h
 | some x =>
  cases hb : gI 0 b with
  | none => rw [ha, hb] at h; cases h
  | some y =>
   rw [ha, hb] at h
   simp only at h
   obtain ⟨a1, a2⟩ := tO _ _ _ ha
   obtain ⟨b1, b2⟩ := tO _ _ _ hb
   split at h
   ·cases hc : aaX x dW with
    | none => rw [hc] at h; cases h
    | some s =>
     rw [hc] at h
     obtain ⟨_, _, _, q⟩ := iM hc
     obtain ⟨_, _, m, p⟩ := qF h
     exact ⟨by omega, m, a2, b2⟩
   ·cases hc : aaX y (-dW) with
    | none => rw [hc] at h; cases h
    | some s =>
     rw [hc] at h
     obtain ⟨_, _, _, q⟩ := iM hc
     obtain ⟨_, _, m, p⟩ := qF h
     exact ⟨by omega, m, a2, b2⟩
theorem IC {pool came dW : Int} {s : Int × Int} (h : rY pool came dW = some s) (hp : dI pool = true) (hc : dI came = true) : s.1 + s.2 = pool + came - dW ∧ dI s.1 = true ∧ dI s.2 = true := by
 unfold rY at h
 split at h
 ·cases hq : rX pool dW with
  | none => rw [hq] at h; cases h
  | some n =>
   rw [hq] at h
   cases h
   obtain ⟨_, _, m, p⟩ := qF hq
   exact ⟨by show n + came = _; omega, m, hc⟩
 ·cases hq : aaX came (-dW) with
  | none => rw [hq] at h; cases h
  | some n =>
   rw [hq] at h
   cases h
   obtain ⟨_, _, m, p⟩ := iM hq
   exact ⟨by show pool + n = _; omega, hp, m⟩
structure rQ (k : Nat) (w : zu) : Prop where
 r : oV w.aV
 v : ∀ x ∈ w.aV, dI x.out.1.1 = true
 p : dI w.pool = true
 c : dI w.came = true
 f : dI w.jv = true
 n : w.aV.length ≤ k
 m : w.av.length ≤ k
 g : w.ring.length ≤ 8
structure rR (k : Nat) (c : C0) : Prop where
 r : oV c.aV
 v : ∀ x ∈ c.aV, dI x.out.1.1 = true
 p : dI c.pool = true
 n : c.aV.length ≤ k
 m : c.av.length ≤ k
 g : c.ring.length ≤ 8
theorem rQ.up {k k' : Nat} {w : zu} (h : rQ k w) (hk : k ≤ k') : rQ k' w := ⟨h.r, h.v, h.p, h.c, h.f, Nat.le_trans h.n hk, Nat.le_trans h.m hk, h.g⟩
theorem rR.up {k k' : Nat} {c : C0} (h : rR k c) (hk : k ≤ k') : rR k' c := ⟨h.r, h.v, h.p, Nat.le_trans h.n hk, Nat.le_trans h.m hk, h.g⟩
theorem rR.start {k : Nat} {c : C0} (h : rR k c) : rQ k (dV c) := ⟨h.r, h.v, h.p, rfl, rfl, h.n, h.m, h.g⟩
theorem Dk {T : dX} {o : aQ .i64 × aS} (h : o ∈ T.outs) : o.1.1 ∈ fV T := List.mem_map.2 ⟨o, h, rfl⟩
def wQ (T : dX) : Nat := T.outs.length + T.av.length
def LJ (w : zu) : Int := dS w.aV + w.jv + w.pool + w.came
theorem Qu {k : Nat} {w : zu} {T : dX} {l : List rM} {y : zu × Int} (h : TV w T l = .ok y) (hw : rQ k w) :
 rQ (k + wQ T) y.1 ∧ LJ y.1 = LJ w ∧ y.1.h = w.h ∧ y.1.ring = w.ring ∧ dI y.2 = true ∧ y.1.jv = w.jv + y.2 ∧ y.1.aV.length + T.ins.length = w.aV.length + T.outs.length ∧ y.1.av = LP w.av T.av ∧ UL w.av T.av = true := by
 unfold TV at h
 split at h
 ·cases h
 rename_i hck
 have hcf : gy T = false := by
  have h0 : fB T false = 0 := Decidable.not_not.1 hck
  unfold fB at h0
  split at h0
  ·rename_i he; exact absurd h0 he
  split at h0
  ·cases h0
  split at h0
  ·cases h0
  rename_i hb
  unfold iL at hb
  cases hc : gy T with
  | false => rfl
  | true => rw [hc] at hb; simp at hb
 split at h
 ·cases h
 split at h
 ·cases h
 cases ha : iH w.aV T (wC T).1 w.h with
 | error e => rw [ha] at h; cases h
 | ok z =>
  rw [ha] at h
  simp only at h
  split at h
  ·cases h
  rename_i hfree
  split at h
  ·cases h
  cases hf : Tk (Gd z.2) (fV T) T.dW.1 with
  | none => rw [hf] at h; cases h
  | some f =>
   rw [hf] at h
   simp only at h
   cases hs : rY w.pool w.came T.dW.1 with
   | none => rw [hs] at h; cases h
   | some s =>
    rw [hs] at h
    simp only at h
    cases hn : aaX w.jv f with
    | none => rw [hn] at h; cases h
    | some n =>
     rw [hn] at h
     cases h
     obtain ⟨a1, a2, a3, a4, a5, a6⟩ := wL ha
     obtain ⟨f1, f2, f3, f4⟩ := Tj hf
     obtain ⟨s1, s2, s3⟩ := IC hs hw.p hw.c
     obtain ⟨_, _, n3, n4⟩ := iM hn
     have hl := Jg T.av w.av
     have hz := a6 hcf
     refine ⟨⟨a5 hw.r, fun x hx => ?_, s2, s3, n3, ?_, ?_, hw.g⟩, ?_, rfl, rfl, f2, n4, ?_, rfl, ?_⟩
     ·rcases a3 x hx with h1 | h1
      ·exact hw.v x h1
      ·exact f4 _ (Dk h1)
     ·have := hw.n; show z.1.length ≤ _; unfold wQ; omega
     ·have := hw.m; show (LP w.av T.av).length ≤ _; unfold wQ; omega
     ·show dS z.1 + n + s.1 + s.2 = dS w.aV + w.jv + w.pool + w.came
      unfold dS at a1 ⊢
      omega
     ·show z.1.length + T.ins.length = _; omega
     ·simpa using hfree
theorem Bp {l : List rM} : ∀ (ts : List dX) {k : Nat} {w u : zu}, qw l w ts = .ok u → rQ k w → rQ (k + (ts.map wQ).sum) u ∧ LJ u = LJ w ∧ u.h = w.h ∧ u.ring = w.ring
 | [], k, w, u, h, hw => by
  unfold qw at h
  cases h
  exact ⟨hw, rfl, rfl, rfl⟩
 | T :: ts, k, w, u, h, hw => by
  unfold qw at h
  cases ha : TV w T l with
  | error e => rw [ha] at h; cases h
  | ok y =>
   rw [ha] at h
   obtain ⟨g1, g2, g3, g4, _⟩ := Qu ha hw
   obtain ⟨i1, i2, i3, i4⟩ := Bp ts h g1
   exact ⟨i1.up (by rw [List.map_cons, List.sum_cons]; omega), i2.trans g2, i3.trans g3, i4.trans g4⟩
theorem Hr {k : Nat} {w : zu} {T : dX} {y : List aD × Int} (h : jH w T = .ok y) (hw : rQ k w) :
 oV y.1 ∧ (∀ x ∈ y.1, dI x.out.1.1 = true) ∧ dI y.2 = true ∧ y.1.length ≤ k + wQ T ∧ (gy T = true → y.1.length = w.aV.length + T.outs.length ∧ dS y.1 + y.2 = LJ w + 5000000) := by
 unfold jH at h
 cases ha : iH w.aV T (wC T).1 w.h with
 | error e => rw [ha] at h; cases h
 | ok z =>
  rw [ha] at h
  simp only at h
  cases hs : rY w.pool w.came T.dW.1 with
  | none => rw [hs] at h; cases h
  | some s =>
   rw [hs] at h
   simp only at h
   cases hp : aaX s.1 s.2 with
   | none => rw [hp] at h; cases h
   | some p =>
    rw [hp] at h
    simp only at h
    split at h
    ·rename_i hc
     cases h
     unfold lW at hc
     cases hq : gI 0 (fV T) with
     | none => rw [hq] at hc; cases hc
     | some n =>
      rw [hq, Option.bind_some] at hc
      obtain ⟨q1, q2⟩ := tO _ _ _ hq
      obtain ⟨_, _, _, c4⟩ := iM hc
      obtain ⟨a1, a2, a3, a4, a5, a6⟩ := wL ha
      obtain ⟨s1, s2, s3⟩ := IC hs hw.p hw.c
      obtain ⟨_, _, p3, p4⟩ := iM hp
      refine ⟨a5 hw.r, fun x hx => ?_, p3, ?_, fun hb => ?_⟩
      ·rcases a3 x hx with h1 | h1
       ·exact hw.v x h1
       ·exact q2 _ (Dk h1)
      ·have := hw.n; show z.1.length ≤ _; unfold wQ; omega
      ·have hz : z.2 = [] := by
        unfold iH Aa at ha
        rw [if_pos hb] at ha
        simp only at ha
        split at ha
        ·cases ha
        ·cases ha; rfl
       rw [hz] at a1 a2
       rw [qz] at a1
       refine ⟨by show z.1.length = _; simpa using a2, ?_⟩
       show dS z.1 + p = dS w.aV + w.jv + w.pool + w.came + 5000000
       omega
    ·cases h
theorem zN {T : dX} (h : fB T true = 0) : gy T = true := by
 unfold fB at h
 split at h
 ·rename_i he; exact absurd h he
 split at h
 ·cases h
 split at h
 ·cases h
 rename_i hb
 unfold iL at hb
 cases hc : gy T with
 | true => rfl
 | false => rw [hc] at hb; simp at hb
def Gh (B : bK) : Nat := (B.bG.map wQ).sum
theorem Gg (B : bK) : wQ (kI B) + ((B.bG.drop 1).map wQ).sum = Gh B := by
 unfold Gh kI
 cases B.bG with
 | nil => rfl
 | cons T r => rfl
theorem Qa {k : Nat} {c d : C0} {B : bK} {l : List rM} (h : vW c B l = .ok d) (hc : rR k c) :
 rR (k + Gh B) d ∧ dS d.aV + d.pool = dS c.aV + c.pool + 5000000 ∧ d.h = sU c.h ∧ d.ring = ou c.ring B.root ∧ d.gB = (qY B).1 ∧ allT c.tree (dz B.bG) = (d.tree, 0) ∧ pF d.tree 32 = B.root ∧ B.prev = c.gB := by
 unfold vW at h
 split at h
 ·cases h
 rename_i XW
 split at h
 ·cases h
 split at h
 ·cases h
 split at h
 ·cases h
 rename_i hck
 split at h
 ·cases h
 cases ha : qw l (dV c) (B.bG.drop 1) with
 | error e => rw [ha] at h; cases h
 | ok w =>
  rw [ha] at h
  simp only at h
  cases hb : jH w (kI B) with
  | error e => rw [hb] at h; cases h
  | ok y =>
   rw [hb] at h
   simp only at h
   cases ht : ja c.tree B with
   | error e => rw [ht] at h; cases h
   | ok t =>
    rw [ht] at h
    cases h
    obtain ⟨g1, g2, g3, g4⟩ := Bp _ ha hc.start
    obtain ⟨k1, k2, k3, k4, k5⟩ := Hr hb g1
    obtain ⟨k6, k7⟩ := k5 (zN (Decidable.not_not.1 hck))
    have hs := Gg B
    have hm := g1.m
    unfold ja at ht
    split at ht
    ·cases ht
    rename_i h0
    split at ht
    ·rename_i hr
     cases ht
     refine ⟨⟨k1, k2, k3, ?_, ?_, ?_⟩, ?_, g3, rfl, rfl, ?_, hr, Decidable.not_not.1 XW⟩
     ·show y.1.length ≤ _; omega
     ·show w.av.length ≤ _; omega
     ·show (ou c.ring B.root).length ≤ 8; rw [Ng]; omega
     ·show dS y.1 + y.2 = dS c.aV + c.pool + 5000000
      have : LJ (dV c) = dS c.aV + 0 + c.pool + 0 := rfl
      omega
     ·exact Prod.ext rfl (Decidable.not_not.1 h0)
    ·cases ht
structure Bv (k : Nat) (d : CV) : Prop where
 c : rR k d.c
 p : ∀ s ∈ d.past, rR k s.2
 n : d.past.length ≤ 4
theorem Bv.up {k k' : Nat} {c : CV} (h : Bv k c) (hk : k ≤ k') : Bv k' c := ⟨h.c.up hk, fun s hs => (h.p s hs).up hk, h.n⟩
theorem Kg {k : Nat} {c d : CV} {B : bK} {l : List rM} (h : kH c B l = .ok d) (hc : Bv k c) : Bv (k + Gh B) d := by
 unfold kH at h
 cases hd : vW c.c B l with
 | error e => rw [hd] at h; cases h
 | ok z =>
  rw [hd] at h
  cases h
  refine ⟨(Qa hd hc.c).1, fun s hs => ?_, ?_⟩
  ·have h1 : s ∈ c.past ++ [(B, c.c)] := List.mem_of_mem_drop hs
   rcases List.mem_append.1 h1 with h2 | h2
   ·exact (hc.p s h2).up (by omega)
   ·rw [List.mem_singleton.1 h2]; exact hc.c.up (by omega)
  ·show (bU 4 _).length ≤ 4
   rw [lq]; omega
end
section
open Go.RowKit
theorem uh {w : World} {g o : Nat} {v : Value} (h : w.cell? ⟨g, o, none⟩ = some v) : au w g o [v] := fun j u hj => by
 match j with
 | 0 => cases hj; exact h
 | j + 1 => cases hj
theorem Ht {T : dX} {b : Bool} (h : fB T b = 0) : -2100000000000000 ≤ T.dW.1 ∧ T.dW.1 ≤ 2100000000000000 := by
 unfold fB at h
 split at h
 ·rename_i he; exact absurd h he
 split at h
 ·cases h
 split at h
 ·cases h
 split at h
 ·cases h
 split at h
 ·cases h
 rename_i hm
 unfold oF TJ at hm
 simp only [Bool.or_eq_true, not_or, decide_eq_true_eq, Bool.not_eq_true] at hm
 omega
end
section
open Go.RowKit
theorem fQ : yE.cells.toArray.size = 1062 + 1 := cO.arr yE
def aP (c : eT) : jE := ⟨dV c.C, c.Ac, c.cc, c.An, c.cn, c.Ar, c.cr⟩
def qZ (A : Option Addr) (c : Nat) : CA := ⟨⟨{ Sy with ring := [pF zT 32] }, none, 0, none, 0, A, c⟩, [], none, 0⟩
def PG : CV := ⟨{ Sy with ring := [pF zT 32] }, []⟩
theorem wH (a : eT) (Ap ZP : Option Addr) (n n' cp cp' : Nat) : (a.cells Ap n cp).toArray.setIfInBounds 1062 (.slice ZP n' cp') = (a.cells ZP n' cp').toArray := by
 have h : a.cells Ap n cp = (.int .u32 a.C.h.1 :: (ak a.C.gB ++ (.slice a.Ac a.C.aV.length a.cc :: .slice a.An a.C.av.length a.cn :: (a.C.tree.cells ++ [.slice a.Ar a.C.ring.length a.cr, .int .i64 a.C.pool])))) ++ [.slice Ap n cp] := by
  unfold eT.cells
  simp only [List.cons_append, List.append_assoc, List.nil_append]
 have h' : a.cells ZP n' cp' = (.int .u32 a.C.h.1 :: (ak a.C.gB ++ (.slice a.Ac a.C.aV.length a.cc :: .slice a.An a.C.av.length a.cn :: (a.C.tree.cells ++ [.slice a.Ar a.C.ring.length a.cr, .int .i64 a.C.pool])))) ++ [.slice ZP n' cp'] := by
  unfold eT.cells
  simp only [List.cons_append, List.append_assoc, List.nil_append]
 have hl : (Value.int .u32 a.C.h.1 :: (ak a.C.gB ++ (Value.slice a.Ac a.C.aV.length a.cc :: Value.slice a.An a.C.av.length a.cn :: (a.C.tree.cells ++ [Value.slice a.Ar a.C.ring.length a.cr, Value.int .i64 a.C.pool])))).length = 1062 := by
  rw [List.length_cons, List.length_append, aC, List.length_cons, List.length_cons, List.length_append, a.C.tree.len]
  rfl
 rw [h, h', List.setIfInBounds_toArray]
 congr 1
 rw [List.set_append_right _ _ (by omega), hl]
 rfl
theorem rZ {P : Program} {fn : Func} {p q r : Tmp} {t1 t2 : TypeId} (h : fn.results = #[.cell p t1, .cell q t2, .tmp r]) (tmps : Array Value) (w : World) (a b : Addr) {x y : Value} (hp : tmps.getD p undef = .pointer (some a)) (hq : tmps.getD q undef = .pointer (some b))
 (hx : (loadVar t1 a).run P w = .ok x w) (hy : (loadVar t2 b).run P w = .ok y w) : (results fn tmps).run P w = .ok (.tuple #[x, y, tmps.getD r undef]) w := by
 have hp' : tmps[p]?.getD undef = .pointer (some a) := by simpa using hp
 have hq' : tmps[q]?.getD undef = .pointer (some b) := by simpa using hq
 simp [results, h, hp', hq', asAddr, hx, hy]
theorem zQ : ((Tryz.prog.info? 70).bind (·.zero)) = some (.agg bZ.cells.toArray) := by kernel_rfl
theorem uU : bZ.cells.toArray.size = 65 + 1 := fe.arr bZ
theorem Holds.keep {w W W' : World} {L : List (Nat × TypeId × Array Value)} {g : Nat} (h : Holds w L W) (o : Only [g] W W') (hg : w.heap.size ≤ g) (hL : ∀ x ∈ L, x.1 ≠ g) : Holds w L W' :=
 ⟨h.below.trans (o.below (by simpa using hg)), fun x hx => o.blk (h.nS x hx) (by simpa using hL x hx)⟩
end
section
open Go.RowKit
theorem QY : ((Tryz.prog.info? 92).bind (·.zero)).map (·.cells.size) = some 38 := by kernel_rfl
theorem QZ : (Tryz.prog.info? 92).map (·.bytes) = some 144 := by kernel_rfl
theorem Xa : ((Tryz.prog.info? 92).bind (·.zero)).isSome = true := by kernel_rfl
theorem TO.Ay {w w' : World} {a : aY} {g : Nat} {t : TypeId} {cs : Array Value} (h : TO w a) (o : Only [g] w w') (hg : ax w g t cs) (h1 : 142 ≠ t) (h2 : 144 ≠ t) (h3 : 26 ≠ t) : TO w' a := ⟨aI h.ins o hg h1, aI h.outs o hg h2, aI h.av o hg h3, aI h.notes o hg h3⟩
structure BO (w : World) (b : bF) : Prop where
 row : w.ownsRow 0 92 38 (.slice b.A b.bG.length b.c) b.bG.length (cellsOf aY.cells b.bG)
 each : ∀ t ∈ b.bG, TO w t
section
variable {w w' : World} {b : bF}
theorem BO.AJ (h : BO w b) : b.In w w.heap.size := ⟨dm aY.len h.row, fun t ht => (h.each t ht).AJ⟩
theorem BO.only {g : Nat} {cs : Array Value} (h : BO w b) (o : Only [g] w w') (hg : ax w g 70 cs) : BO w' b := ⟨aI h.row o hg (by decide), fun t ht => (h.each t ht).Ay o hg (by decide) (by decide) (by decide)⟩
end
end
section
open Go.RowKit
section
variable {w : World} {base g n cap : Nat} {e : TypeId} {k : Nat} {xs : List Value}
theorem Gv {P : Program} (h : w.ownsRow base e k (.slice (some ⟨g, 0, none⟩) n cap) n xs) (o : Nat) (vs : List Value) (hfit : o + vs.length ≤ n * k) (h1 : ∀ v ∈ vs, v.oneCell' = true) :
 ∃ w', (storeCells ⟨g, o, none⟩ vs).run P w = .ok () w' ∧ Only [g] w w' ∧ w'.ownsRow base e k (.slice (some ⟨g, 0, none⟩) n cap) n (xs.take o ++ vs ++ xs.drop (o + vs.length)) := by
 obtain ⟨cur, hb, hbase, hn, hm, hs, ht⟩ := oC h
 have aaL : n * k ≤ cap * k := Nat.mul_le_mul_right k hn
 have hst := run_storeCells_at P g o e vs 0 cur w hb (by rw [Nat.add_zero, hs]; omega) h1
 rw [Nat.add_zero] at hst
 have hcl : cur.toList.length = cap * k := by rw [Array.length_toList, hs]
 refine ⟨_, hst, (cK hb _).1, ?_, .inr ⟨g, cap, _, rfl, hbase, (cK hb _).2, hn, hm, ?_, ?_⟩⟩
 ·rw [List.length_append, List.length_append, List.length_take, List.length_drop, h.1]; omega
 ·rw [List.size_toArray, List.length_append, List.length_append, List.length_take, List.length_drop, hcl]; omega
 ·show ((cur.toList.take o ++ vs ++ cur.toList.drop (o + vs.length)).toArray).toList.take (n * k) = _
  have e1 : (cur.toList.take o ++ vs).length = o + vs.length := by rw [List.length_append, List.length_take, hcl]; omega
  rw [← ht]
  simp only []
  rw [List.take_append, List.take_of_length_le (by rw [e1]; exact hfit), e1, List.take_take, Nat.min_eq_left (by omega), List.drop_take]
theorem J8 (h : w.ownsRow base e k (.slice (some ⟨g, 0, none⟩) n cap) n xs) (m : Nat) (hm : n ≤ m) (hc : m ≤ cap) : ∃ ys, ys.length = (m - n) * k ∧ w.ownsRow base e k (.slice (some ⟨g, 0, none⟩) m cap) m (xs ++ ys) := by
 obtain ⟨cur, hb, hbase, hn, hcm, hs, ht⟩ := oC h
 have hcl : cur.toList.length = cap * k := by rw [Array.length_toList, hs]
 have e1 : m * k = n * k + (m - n) * k := by rw [← Nat.add_mul]; congr 1; omega
 have e2 : m * k ≤ cap * k := Nat.mul_le_mul_right k hc
 have hyl : ((cur.toList.drop (n * k)).take ((m - n) * k)).length = (m - n) * k := by rw [List.length_take, List.length_drop, hcl]; omega
 refine ⟨(cur.toList.drop (n * k)).take ((m - n) * k), hyl, ?_, .inr ⟨g, cap, cur, rfl, hbase, hb, hc, hcm, hs, ?_⟩⟩
 ·rw [List.length_append, h.1, hyl, e1]
 ·rw [e1, List.take_add, ht]
theorem Nz (h : w.ownsRow base e k (.slice (some ⟨g, 0, none⟩) n cap) n xs) (m : Nat) (hm : m ≤ n) : w.ownsRow base e k (.slice (some ⟨g, 0, none⟩) m cap) m (xs.take (m * k)) := by
 obtain ⟨cur, hb, hbase, hn, hcm, hs, ht⟩ := oC h
 have e1 : m * k ≤ n * k := Nat.mul_le_mul_right k hm
 refine ⟨by rw [List.length_take, h.1]; omega, .inr ⟨g, cap, cur, rfl, hbase, hb, by omega, hcm, hs, ?_⟩⟩
 rw [← ht, List.take_take, Nat.min_eq_left e1]
theorem vH (h : w.ownsRow base e k (.slice (some ⟨g, 0, none⟩) n cap) n xs) (i m : Nat) (hm : i + m ≤ n) : Reads w w.heap.size k (some ⟨g, i * k, none⟩) m ((xs.drop (i * k)).take (m * k)) := by
 obtain ⟨cur, hb, hbase, hn, hcm, hs, ht⟩ := oC h
 have e1 : i * k + m * k ≤ n * k := by rw [← Nat.add_mul]; exact Nat.mul_le_mul_right k hm
 have e2 : n * k ≤ cap * k := Nat.mul_le_mul_right k hn
 refine ⟨by rw [List.length_take, List.length_drop, h.1]; omega, fun _ => ⟨_, rfl, hb.lt, fun j u hj => ?_⟩⟩
 have hjl := (List.getElem?_eq_some_iff.1 hj).1
 rw [List.length_take, List.length_drop, h.1] at hjl
 rw [List.getElem?_take_of_lt (by omega), List.getElem?_drop, ← ht, List.getElem?_take_of_lt (by omega), Array.getElem?_toList] at hj
 rw [Addr.add_lit, hb.cell]
 exact hj
end
theorem Ad {w : World} {g : Nat} {t : TypeId} {cs : Array Value} (h : ax w g t cs) : w.shape? g = some (t, cs.size) := by
 unfold World.shape?
 rw [show w.heap[g]? = _ from h]
theorem J9 {w : World} {base base' : Nat} {e : TypeId} {size n : Nat} {v : Value} {xs : List Value} (h : w.ownsRow base e size v n xs) (hb : base' ≤ base) : w.ownsRow base' e size v n xs :=
 ⟨h.1, h.2.imp id fun ⟨g, cap, cur, h1, h2, h3⟩ => ⟨g, cap, cur, h1, Nat.le_trans hb h2, h3⟩⟩
theorem eP {w w' : World} {base n : Nat} {e : TypeId} {k : Nat} {v : Value} {xs : List Value} (h : w.ownsRow base e k v n xs) (hk : ∀ b, v.ownBlock = some b → b < w.heap.size → w'.heap[b]? = w.heap[b]?) : w'.ownsRow base e k v n xs :=
 ⟨h.1, h.2.imp id fun ⟨g, cap, cur, h1, h2, h3, h4⟩ => ⟨g, cap, cur, h1, h2, (hk g (by rw [h1]; rfl) (show ax w g e cur from h3).lt).trans h3, h4⟩⟩
theorem j6 {w : World} {base n : Nat} {e : TypeId} {k : Nat} {v : Value} {xs : List Value} (h : w.ownsRow base e k v n xs) : ∀ b, v.ownBlock = some b → b < w.heap.size := by
 intro b hb
 rcases h.2 with ⟨rfl, _⟩ | ⟨g, cap, cur, rfl, h2, h3, h4⟩
 ·cases hb
 ·obtain rfl : g = b := by simpa [Value.ownBlock] using hb
  exact (show ax w g e cur from h3).lt
theorem Eh {w : World} {base n : Nat} {e : TypeId} {k : Nat} {v : Value} {xs : List Value} (h : w.ownsRow base e k v n xs) : w.drew.ownsRow base e k v n xs := h
section
variable {α : Type} {enc : α → List Value} {k : Nat} {P : Program} {t e : TypeId} (T : cu P t e enc k)
include T
theorem cu.tZ {w : World} {base g n cap : Nat} {xs : List Value} (h : w.ownsRow base e k (.slice (some ⟨g, 0, none⟩) n cap) n xs) (i dl dc sl sc m B : Nat) (A : Option Addr) (vs : List Value) (hm : min sl dl = m) (h0 : 0 < m) (hr : Reads w B k A m vs) (h1 : ∀ v ∈ vs, v.oneCell' = true) (hfit : i + m ≤ n) (ty : TypeId) :
 ∃ w', (Builtin.copy_ #[t, t] ty #[.slice (some ⟨g, i * k, none⟩) dl dc, .slice A sl sc]).run P w = .ok (goInt m) w' ∧ Only [g] w w' ∧ w'.ownsRow base e k (.slice (some ⟨g, 0, none⟩) n cap) n (xs.take (i * k) ++ vs ++ xs.drop (i * k + vs.length)) := by
 have hsz := T.size
 cases hie : P.info? e with
 | none => simp [hie] at hsz
 | some ie =>
  simp only [hie, Option.map_some, Option.some.injEq] at hsz
  obtain ⟨ad, rfl, _, hc⟩ := hr.2 h0
  have e1 : i * k + m * k ≤ n * k := by rw [← Nat.add_mul]; exact Nat.mul_le_mul_right k hfit
  obtain ⟨w', hst, o', r'⟩ := Gv (P := P) h (i * k) vs (by rw [hr.1]; exact e1) h1
  have hf := run_firstCells_some (P := P) w k m ad sl sc vs hr.1 hc
  refine ⟨w', ?_, o', r'⟩
  have hm' : Nat.min sl dl = m := hm
  simp [Builtin.copy_, run_underlying T.slice, Builtin.lenOf, T.sizeOf, hm', hf, hst]
theorem cu.vF {w : World} {base g n cap : Nat} {xs : List Value} (h : w.ownsRow base e k (.slice (some ⟨g, 0, none⟩) n cap) n xs) (tn ty : TypeId) (kn : IntKind) (htn : P.underlying tn = some (.int kn)) (hzi : ((P.info? e).bind (·.zero)).map (·.cells.size) = some k) (bytes : Nat) (hb : (P.info? e).map (·.bytes) = some bytes) (hby : bytes ≤ 100000)
 (m : Nat) (h0 : 0 < m) (hg : cap < n + m) (hbig : n + m ≤ 1000000) :
 ∃ w' c' ys, (Builtin.append_ #[t, tn] ty #[.slice (some ⟨g, 0, none⟩) n cap, .int .i64 m]).run P w = .ok (.slice (some ⟨w.heap.size, 0, none⟩) (n + m) c') w' ∧ ys.length = m * k ∧ Below w.heap.size w w' ∧ w'.ownsRow w.heap.size e k (.slice (some ⟨w.heap.size, 0, none⟩) (n + m) c') (n + m) (xs ++ ys) := by
 have hsz := T.size
 cases hie : P.info? e with
 | none => simp [hie] at hsz
 | some ie =>
  simp only [hie, Option.map_some, Option.some.injEq, Option.bind_some, Option.map_eq_some_iff] at hsz hzi hb
  obtain ⟨z, hz1, hz2⟩ := hzi
  have hrd := vH h 0 n (by omega)
  rw [Nat.zero_mul, List.drop_zero, List.take_of_length_le (by rw [h.1]; exact Nat.le_refl _)] at hrd
  have hold : (Builtin.firstCells ie.size n (.slice (some ⟨g, 0, none⟩) n cap)).run P w.drew = .ok xs.toArray w.drew := by
   rw [hsz]
   refine run_firstCells_some (P := P) w.drew k n ⟨g, 0, none⟩ n cap xs h.1 ?_
   intro j u hj
   rcases Nat.eq_zero_or_pos n with hn | hn
   ·subst hn
    have := h.1
    rw [Nat.zero_mul] at this
    rw [List.eq_nil_of_length_eq_zero this] at hj
    simp at hj
   ·obtain ⟨ad, e1, _, hc⟩ := hrd.2 hn
    obtain rfl := Option.some.inj e1
    exact hc j u hj
  have aaq : m * ie.bytes ≤ 281474976710656 := by
   rw [hb]
   have : m * bytes ≤ 1000000 * 100000 := Nat.mul_le_mul (by omega) hby
   omega
  have hrun := Lib.run_append_grow_zeros (P := P) w t tn ty e ie z .i64 kn T.slice htn hie hz1 (some ⟨g, 0, none⟩) n cap xs hold m h0 (by rw [hsz]; exact T.pos) hg (by omega) aaq
   (growslice_fits hg (by rw [hb]; have : (n + m) * bytes ≤ 1000000 * 100000 := Nat.mul_le_mul hbig hby; omega))
  refine ⟨_, _, (Builtin.zeroCells z.cells m).toList, hrun, by simp [Builtin.zeroCells, hz2], ((Below.refl _ _).drew).alloc (Nat.le_refl _) _, ?_, .inr ⟨w.heap.size, _, _, rfl, Nat.le_refl _, heap_alloc_new w.drew _, grownCap_ge w _ _ _, grownCap_le_maxLen w _ _ _ (by unfold maxLen; omega), ?_, ?_⟩⟩
  ·rw [List.length_append, h.1]; simp [Builtin.zeroCells, hz2, Nat.add_mul]
  ·have := grownCap_ge w (n + m) cap e
   simp only [Array.size_append, List.size_toArray, size_zeroCells, hz2, h.1, ← Nat.add_mul]
   congr 1
   omega
  ·simp only [Array.toList_append]
   rw [show (n + m) * k = (xs ++ (Builtin.zeroCells z.cells m).toList).length by rw [List.length_append, h.1]; simp [Builtin.zeroCells, hz2, Nat.add_mul]]
   exact List.take_left
theorem cu.wpList_copy_own {ops : Array Oper} {rest : List Oper} {o : Oper} {a : Act} {w : World} {Q : Exit → Act → World → Prop} (hgd : o.guard = none) (x y : Operand)
 (ho : o.op = .call { callee := .builtin .copy, args := #[x, y], argTypes := #[t, t] }) (base g n cap : Nat) (xs : List Value) (hown : w.ownsRow base e k (.slice (some ⟨g, 0, none⟩) n cap) n xs)
 (i dl dc sl sc m B : Nat) (A : Option Addr) (vs : List Value) (hx : a.eval x = .slice (some ⟨g, i * k, none⟩) dl dc) (hy : a.eval y = .slice A sl sc) (hm : min sl dl = m) (h0 : 0 < m) (hr : Reads w B k A m vs) (h1 : ∀ v ∈ vs, v.oneCell' = true) (hfit : i + m ≤ n)
 (h : ∀ w', Only [g] w w' → w'.ownsRow base e k (.slice (some ⟨g, 0, none⟩) n cap) n (xs.take (i * k) ++ vs ++ xs.drop (i * k + vs.length)) → wpList P ops Q rest (a.put o.dst (goInt m)) w') : wpList P ops Q (o :: rest) a w := by
 refine wpList_plain hgd fun K hK => ?_
 obtain ⟨w', hrun, h2, h3⟩ := T.tZ hown i dl dc sl sc m B A vs hm h0 hr h1 hfit o.type
 unfold Oper.wp execOp
 simp only [ho, resolve, invoke, builtin, Sem.run_bind, Sem.run_pure, Result.andThen_ok, List.map_toArray, List.map_cons, List.map_nil, hx, hy, hrun]
 exact hK _ _ (h w' h2 h3)
theorem cu.rD {ops : Array Oper} {o : Oper} {a : Act} {w : World} {K : Act → World → Prop} {Q : Exit → Act → World → Prop} {E : Prop} (hgd : o.guard = none) (x y : Operand)
 (ho : o.op = .call { callee := .builtin .copy, args := #[x, y], argTypes := #[t, t] }) (base g n cap : Nat) (xs : List Value) (hown : w.ownsRow base e k (.slice (some ⟨g, 0, none⟩) n cap) n xs)
 (i dl dc sl sc m B : Nat) (A : Option Addr) (vs : List Value) (hx : a.eval x = .slice (some ⟨g, i * k, none⟩) dl dc) (hy : a.eval y = .slice A sl sc) (hm : min sl dl = m) (h0 : 0 < m) (hr : Reads w B k A m vs) (h1 : ∀ v ∈ vs, v.oneCell' = true) (hfit : i + m ≤ n)
 (h : ∀ w', Only [g] w w' → w'.ownsRow base e k (.slice (some ⟨g, 0, none⟩) n cap) n (xs.take (i * k) ++ vs ++ xs.drop (i * k + vs.length)) → K (a.put o.dst (goInt m)) w') :
 if Region.wanted o (yielded ops a.tmps) = true then Oper.wp P o a w K Q else E := by
 have hw : Region.wanted o (yielded ops a.tmps) = true := by simp [Region.wanted, hgd]
 rw [if_pos hw]
 obtain ⟨w', hrun, h2, h3⟩ := T.tZ hown i dl dc sl sc m B A vs hm h0 hr h1 hfit o.type
 unfold Oper.wp execOp
 simp only [ho, resolve, invoke, builtin, Sem.run_bind, Sem.run_pure, Result.andThen_ok, List.map_toArray, List.map_cons, List.map_nil, hx, hy, hrun]
 exact h w' h2 h3
theorem cu.qW {ops : Array Oper} {rest : List Oper} {o : Oper} {a : Act} {w : World} {Q : Exit → Act → World → Prop} (hgd : o.guard = none) (s x : Operand) (tn : TypeId) (kn : IntKind) (htn : P.underlying tn = some (.int kn))
 (ho : o.op = .call { callee := .builtin .append, args := #[s, x], argTypes := #[t, tn] }) (hzi : ((P.info? e).bind (·.zero)).map (·.cells.size) = some k) (bytes : Nat) (hb : (P.info? e).map (·.bytes) = some bytes) (hby : bytes ≤ 100000)
 (base g n cap : Nat) (xs : List Value) (hs : a.eval s = .slice (some ⟨g, 0, none⟩) n cap) (hown : w.ownsRow base e k (.slice (some ⟨g, 0, none⟩) n cap) n xs) (m : Nat) (hx : a.eval x = .int .i64 m) (h0 : 0 < m) (hg : cap < n + m) (hbig : n + m ≤ 1000000)
 (h : ∀ w' c' ys, ys.length = m * k → Below w.heap.size w w' → w'.ownsRow w.heap.size e k (.slice (some ⟨w.heap.size, 0, none⟩) (n + m) c') (n + m) (xs ++ ys) → wpList P ops Q rest (a.put o.dst (.slice (some ⟨w.heap.size, 0, none⟩) (n + m) c')) w') : wpList P ops Q (o :: rest) a w := by
 refine wpList_plain hgd fun K hK => ?_
 obtain ⟨w', c', ys, hrun, h2, h3, h4⟩ := T.vF hown tn o.type kn htn hzi bytes hb hby m h0 hg hbig
 unfold Oper.wp execOp
 simp only [ho, resolve, invoke, builtin, Sem.run_bind, Sem.run_pure, Result.andThen_ok, List.map_toArray, List.map_cons, List.map_nil, hs, hx, hrun]
 exact hK _ _ (h w' c' ys h2 h3 h4)
end
end
section
open Go.RowKit
theorem zh (A : Option Addr) (c : Nat) (l : List aD) (B : Nat) (w : World) (hl : l.length ≤ 1000000) (hB : B ≤ w.heap.size) (h : aK aX 68 w B A c l) :
 Calls Tryz.prog 217 #[.slice A l.length c] w fun e w' => ∃ v, e = .returned v ∧ w'.ownsRow w.heap.size 317 68 v l.length (cellsOf aX l) ∧ Below w.heap.size w w' := by
 have HH := qh (h.reads bR)
 have H1 := qh (dB lU l)
 have hn : A = none → l = [] := fun e => by
  cases l with
  | nil => rfl
  | cons x l => obtain ⟨g, o, e', _⟩ := h.cells (by simp); rw [e] at e'; cases e'
 clear h
 obtain ⟨xs, hxs⟩ : ∃ xs, cellsOf aX l = xs := ⟨_, rfl⟩
 have QG := qh hxs
 rw [hxs] at HH H1 ⊢
 clear hxs
 have q22 : ∀ (w : World) (a : Option Addr) (n c n' c' : Nat), (binOp .eql 42 (.slice a n c) (.slice none n' c')).run Tryz.prog w = .ok (.bool a.isNone) w := fun w a n c n' c' => Lib.run_eql_slice_nil w _ _ a n c n' c' Tryz.underlying42
 rcases A with _ | ad
 ·have hl0 := hn rfl
  subst hl0
  have hx0 : xs = [] := by rw [← QG.out]; rfl
  subst hx0
  go_enter Tryz.func217, Tryz.ntmps217
  go_wp2_with fail
  go_ret
  exact ⟨_, rfl, ⟨rfl, .inl ⟨rfl, rfl⟩⟩, Below.refl _ _⟩
 ·clear hn
  obtain ⟨n, hn⟩ : ∃ n, l.length = n := ⟨_, rfl⟩
  rw [hn] at HH hl ⊢
  clear hn QG
  obtain ⟨i0, hi0⟩ : ∃ i0, Tryz.prog.info? 317 = some i0 := Option.isSome_iff_exists.1 (by kernel_rfl)
  have hz : i0.zero.map (·.cells.size) = some 68 ∧ i0.size = 68 ∧ i0.bytes = 88 := by
   have h1 : (Tryz.prog.info? 317).map (fun i => (i.zero.map (·.cells.size), i.size, i.bytes)) = some (some 68, 68, 88) := by kernel_rfl
   rw [hi0] at h1
   simpa using h1
  obtain ⟨hz1, hz2, hz3⟩ := hz
  obtain ⟨z, IZ, IY⟩ := Option.map_eq_some_iff.1 hz1
  have HZ := qh (And.intro hi0 (And.intro IZ (And.intro hz2 (And.intro hz3 IY))))
  clear hz1 hz2 hz3 hi0 IZ IY
  go_enter Tryz.func217, Tryz.ntmps217
  go_wp2_with (at_builtin; refine dP _ rfl _ _ 42 rfl w.heap.size 317 i0 z 68 88 Tryz.underlying42 HZ.out.1 HZ.out.2.1 HZ.out.2.2.1 HZ.out.2.2.2.1 HZ.out.2.2.2.2 (by omega) _ 0 [] rfl (World.ownsRow_made w #[] 0 (Nat.le_refl _) (Nat.zero_le _) (by simp)) B _ n c xs rfl ((HH.out.more hB).alloc (Nat.le_refl _) _ |> fun h => ⟨h.1, fun hp => let ⟨UQ, e1, e2, e3⟩ := HH.out.2 hp; ⟨UQ, e1, e2, let ⟨ad2, f1, f2, f3⟩ := h.2 hp; (Option.some.inj (e1.symm.trans f1)) ▸ f3⟩⟩) H1.out ?_ ?_ ?_ ?_)
  ·unfold maxLen; omega
  ·omega
  ·simp
  ·intro v' w1 hown hgrow _
   go_wp2_with fail
   go_ret
   refine ⟨v', rfl, by simpa using hown, ?_⟩
   exact ((Below.refl _ w).alloc (Nat.le_refl _) _).grown hgrow (by simp) (by intro k hk; simp [Value.ownBlock] at hk; omega)
theorem Gt (A : Option Addr) (c : Nat) (l : List FK) (B : Nat) (w : World) (hl : l.length ≤ 1000000) (hB : B ≤ w.heap.size) (h : aK (aR .u32) 33 w B A c l) :
 Calls Tryz.prog 146 #[.slice A l.length c] w fun e w' => ∃ v, e = .returned v ∧ w'.ownsRow w.heap.size 142 33 v l.length (cellsOf (aR .u32) l) ∧ Below w.heap.size w w' := by
 have HH := qh (h.reads (fT _))
 have H1 := qh (dB (vT _) l)
 have hn : A = none → l = [] := fun e => by
  cases l with
  | nil => rfl
  | cons x l => obtain ⟨g, o, e', _⟩ := h.cells (by simp); rw [e] at e'; cases e'
 clear h
 obtain ⟨xs, hxs⟩ : ∃ xs, cellsOf (aR .u32) l = xs := ⟨_, rfl⟩
 have QG := qh hxs
 rw [hxs] at HH H1 ⊢
 clear hxs
 have q22 : ∀ (w : World) (a : Option Addr) (n c n' c' : Nat), (binOp .eql 89 (.slice a n c) (.slice none n' c')).run Tryz.prog w = .ok (.bool a.isNone) w := fun w a n c n' c' => Lib.run_eql_slice_nil w _ _ a n c n' c' Tryz.underlying89
 rcases A with _ | ad
 ·have hl0 := hn rfl
  subst hl0
  have hx0 : xs = [] := by rw [← QG.out]; rfl
  subst hx0
  go_enter Tryz.func146, Tryz.ntmps146
  go_wp2_with fail
  go_ret
  exact ⟨_, rfl, ⟨rfl, .inl ⟨rfl, rfl⟩⟩, Below.refl _ _⟩
 ·clear hn
  obtain ⟨n, hn⟩ : ∃ n, l.length = n := ⟨_, rfl⟩
  rw [hn] at HH hl ⊢
  clear hn QG
  obtain ⟨i0, hi0⟩ : ∃ i0, Tryz.prog.info? 142 = some i0 := Option.isSome_iff_exists.1 (by kernel_rfl)
  have hz : i0.zero.map (·.cells.size) = some 33 ∧ i0.size = 33 ∧ i0.bytes = 36 := by
   have h1 : (Tryz.prog.info? 142).map (fun i => (i.zero.map (·.cells.size), i.size, i.bytes)) = some (some 33, 33, 36) := by kernel_rfl
   rw [hi0] at h1
   simpa using h1
  obtain ⟨hz1, hz2, hz3⟩ := hz
  obtain ⟨z, IZ, IY⟩ := Option.map_eq_some_iff.1 hz1
  have HZ := qh (And.intro hi0 (And.intro IZ (And.intro hz2 (And.intro hz3 IY))))
  clear hz1 hz2 hz3 hi0 IZ IY
  go_enter Tryz.func146, Tryz.ntmps146
  go_wp2_with (at_builtin; refine dP _ rfl _ _ 89 rfl w.heap.size 142 i0 z 33 36 Tryz.underlying89 HZ.out.1 HZ.out.2.1 HZ.out.2.2.1 HZ.out.2.2.2.1 HZ.out.2.2.2.2 (by omega) _ 0 [] rfl (World.ownsRow_made w #[] 0 (Nat.le_refl _) (Nat.zero_le _) (by simp)) B _ n c xs rfl ((HH.out.more hB).alloc (Nat.le_refl _) _ |> fun h => ⟨h.1, fun hp => let ⟨UQ, e1, e2, e3⟩ := HH.out.2 hp; ⟨UQ, e1, e2, let ⟨ad2, f1, f2, f3⟩ := h.2 hp; (Option.some.inj (e1.symm.trans f1)) ▸ f3⟩⟩) H1.out ?_ ?_ ?_ ?_)
  ·unfold maxLen; omega
  ·omega
  ·simp
  ·intro v' w1 hown hgrow _
   go_wp2_with fail
   go_ret
   refine ⟨v', rfl, by simpa using hown, ?_⟩
   exact ((Below.refl _ w).alloc (Nat.le_refl _) _).grown hgrow (by simp) (by intro k hk; simp [Value.ownBlock] at hk; omega)
def kS (p : aD → Bool) (l : List aD) : Int := if l.any p = true then (l.findIdx p : Int) else -1
theorem yU (p : aD → Bool) (l : List aD) (k : Nat) (hk : k < l.length) (hp : p l[k] = true) (hb : ∀ j (h : j < l.length), j < k → p l[j] = false) : kS p l = k := by
 unfold kS
 rw [if_pos (List.any_eq_true.2 ⟨_, List.getElem_mem hk, hp⟩)]
 congr 1
 exact (List.findIdx_eq hk).2 ⟨hp, fun j hj => hb j (by omega) hj⟩
theorem uL (p : aD → Bool) (l : List aD) (hb : ∀ j (h : j < l.length), p l[j] = false) : kS p l = -1 := by
 unfold kS
 rw [if_neg]
 intro h
 obtain ⟨x, hx, hp⟩ := List.any_eq_true.1 h
 obtain ⟨i, hi, rfl⟩ := List.getElem_of_mem hx
 rw [hb i hi] at hp; cases hp
theorem qj (A : Option Addr) (c : Nat) (l : List aD) (B : Nat) (w : World) (hl : l.length ≤ 1000000) (hB : B ≤ w.heap.size) (h : aK aX 68 w B A c l)
 (g : Nat) (cb : Array Value) (p : aD → Bool) (eg : ∀ args w, (callFunc g args).run Tryz.prog w = .ok (.enter g args) w)
 (hp : ∀ x W, Below w.heap.size w W → Calls Tryz.prog g (#[.agg (aX x).toArray] ++ cb) W fun e w' => e = .returned (.bool (p x)) ∧ Below W.heap.size W w') :
 Calls Tryz.prog 313 #[.slice A l.length c, .func (.func g) #[] cb] w fun e w' => e = .returned (.int .i64 (kS p l)) ∧ Below w.heap.size w w' := by
 obtain ⟨r, hr⟩ : ∃ r, kS p l = r := ⟨_, rfl⟩
 rw [hr]
 have HR := qh hr
 clear hr
 obtain ⟨n, hn⟩ : ∃ n, l.length = n := ⟨_, rfl⟩
 have HN := qh hn
 rw [hn] at hl
 have HH := qh h
 have HP := qh hp
 clear h hp
 rw [hn]
 clear hn
 go_enter Tryz.func313, Tryz.ntmps313
 go_wp2_with fail
 go_loopw [5, 8] (fun _ i wr => ∃ k : Nat, i = .int .i64 k ∧ k ≤ n ∧ Hid (∀ j (h : j < l.length), j < k → p l[j] = false) ∧ Hid (Below w.heap.size w wr)) (fun _ i _ => n - (intOf i).toNat)
 case atStart => exact ⟨0, rfl, by omega, qh (fun j h1 h2 => absurd h2 (Nat.not_lt_zero _)), qh (Below.refl _ _)⟩
 case round =>
  obtain ⟨k, rfl, hk, HI, HW⟩ := hrel
  by_cases hlt : k < n
  ·have hk' : k < l.length := by rw [HN.out]; exact hlt
   obtain ⟨gg, o, rfl, hg, hc⟩ := HH.out.cells (by intro e; subst e; simp at hk')
   have HX := qh ((hc.below HW.out (by omega)).at bR hk')
   clear hc
   obtain ⟨x, hx⟩ : ∃ x, l[k]'hk' = x := ⟨_, rfl⟩
   rw [hx] at HX
   have HE := qh hx
   clear hx
   have d1 : (0 : Int) ≤ (k : Int) := by omega
   have d2 : (k : Int) < (n : Int) := by omega
   have HC := qh (HP.out x wr HW.out)
   obtain ⟨b, hb⟩ : ∃ b, p x = b := ⟨_, rfl⟩
   rw [hb] at HC
   have HB := qh hb
   clear hb
   cases b
   ·go_wp2_with (first
     | ((with_reducible refine fq 14 ?_); refine jg.af (by rfl) (.tmp 14) rfl gg _ rfl x (by have := HX.out; rwa [show o + k * 68 = o + k * 68 from rfl] at this) ?_)
     | (go_at_fn g; refine HC.out.mono ?_; rintro e w2 ⟨rfl, b2⟩))
    go_roundw
    case rel =>
     refine ⟨k + 1, by go_num, by omega, qh (fun j h1 h2 => ?_), qh (HW.out.trans (b2.mono HW.out.size))⟩
     by_cases e : j = k
     ·subst e; rw [HE.out]; exact HB.out
     ·exact HI.out j h1 (by omega)
    case measure => simp [intOf]; omega
   ·go_wp2_with (first
     | ((with_reducible refine fq 14 ?_); refine jg.af (by rfl) (.tmp 14) rfl gg _ rfl x (by have := HX.out; rwa [show o + k * 68 = o + k * 68 from rfl] at this) ?_)
     | (go_at_fn g; refine HC.out.mono ?_; rintro e w2 ⟨rfl, b2⟩))
    go_ret
    refine ⟨?_, HW.out.trans (b2.mono HW.out.size)⟩
    rw [← HR.out, yU p l k hk' (by rw [HE.out]; exact HB.out) HI.out]
    rfl
  ·go_wp2_with fail
   go_ret
   refine ⟨?_, HW.out⟩
   rw [← HR.out, uL p l (fun j hj => HI.out j hj (by have := HN.out; omega))]
   rfl
theorem aaw : ((Tryz.prog.info? 317).bind (·.zero)).map (·.cells.size) = some 68 := by kernel_rfl
theorem Tx : ((Tryz.prog.info? 317).bind (·.zero)).isSome = true := by kernel_rfl
theorem aax : ∃ b, (Tryz.prog.info? 317).map (·.bytes) = some b ∧ b ≤ 100000 := by
 refine ⟨((Tryz.prog.info? 317).map (·.bytes)).getD 0, ?_, ?_⟩
 ·kernel_rfl
 ·exact of_decide_eq_true (by kernel_rfl)
theorem Pe {α : Type} (X ys E D : List α) (a k : Nat) (hX : X.length = a) (hE : E.length = k) (hy : ys.length = k + D.length) :
 ((X ++ ys).take a ++ E ++ (X ++ ys).drop (a + E.length)).take (a + k) ++ D ++ ((X ++ ys).take a ++ E ++ (X ++ ys).drop (a + E.length)).drop (a + k + D.length) = X ++ E ++ D := by
 subst hX hE
 rw [List.take_left, List.drop_append, Nat.add_sub_cancel_left, List.drop_of_length_le (l := X) (by omega), List.nil_append]
 have e1 : (X ++ E ++ ys.drop E.length).take (X.length + E.length) = X ++ E := by
  rw [← List.length_append]; exact List.take_left
 have e2 : (X ++ E ++ ys.drop E.length).drop (X.length + E.length + D.length) = [] := List.drop_of_length_le (by simp only [List.length_append, List.length_drop]; omega)
 rw [e1, e2, List.append_nil]
theorem Kw {α : Type} (X ys E D : List α) (a k : Nat) (hX : X.length = a) (hE : E.length = k) (hy : ys.length = k) :
 ((X ++ D ++ ys).take (a + k) ++ D ++ (X ++ D ++ ys).drop (a + k + D.length)).take a ++ E ++ ((X ++ D ++ ys).take (a + k) ++ D ++ (X ++ D ++ ys).drop (a + k + D.length)).drop (a + E.length) = X ++ E ++ D := by
 subst hX hE
 have e0 : (X ++ D ++ ys).drop (X.length + E.length + D.length) = [] := List.drop_of_length_le (by simp only [List.length_append]; omega)
 have l1 : ((X ++ D ++ ys).take (X.length + E.length)).length = X.length + E.length := by rw [List.length_take]; simp only [List.length_append]; omega
 rw [e0, List.append_nil]
 have e1 : ((X ++ D ++ ys).take (X.length + E.length) ++ D).take X.length = X := by
  rw [List.take_append_of_le_length (by rw [l1]; omega), List.take_take, Nat.min_eq_left (by omega), List.append_assoc, List.take_left]
 have e2 : ((X ++ D ++ ys).take (X.length + E.length) ++ D).drop (X.length + E.length) = D := by
  generalize (X ++ D ++ ys).take (X.length + E.length) = Z at l1 ⊢
  rw [← l1]
  exact List.drop_left
 rw [e1, e2]
theorem Fq (l : List aD) (i : Nat) : cellsOf aX l = cellsOf aX (l.take i) ++ cellsOf aX (l.drop i) := by
 rw [← bS, List.take_append_drop]
theorem Ta : Tryz.prog.underlying 3 = some (.int .i64) := by kernel_rfl
def iV (l : List aD) (i : Nat) (c : aD) : List aD := l.take i ++ [c] ++ l.drop i
theorem vN (l : List aD) (i : Nat) (c : aD) : (iV l i c).length = l.length + 1 := by
 unfold iV
 rw [List.length_append, List.length_append, List.length_take, List.length_drop]
 simp only [List.length_singleton]
 omega
theorem qg (l : List aD) (i : Nat) (c : aD) : cellsOf aX (iV l i c) = cellsOf aX (l.take i) ++ aX c ++ cellsOf aX (l.drop i) := by
 unfold iV
 rw [bS, bS, mO]
theorem Fu (base : Nat) (v : Value) (l : List aD) (c : aD) (gv : Nat) (w : World) (h : w.ownsRow base 317 68 v l.length (cellsOf aX l)) (hl : l.length ≤ 100000) (hb : ax w gv 317 (cellsOf aX [c]).toArray) (hbase : base ≤ w.heap.size) :
 Calls Tryz.prog 320 #[v, .int .i64 l.length, .slice (some ⟨gv, 0, none⟩) 1 1] w fun e w' => ∃ v', e = .returned v' ∧ w'.ownsRow base 317 68 v' (l.length + 1) (cellsOf aX l ++ aX c) ∧ w.grownBy w' v.ownBlock ∧ (v'.ownBlock = v.ownBlock ∨ v'.ownBlock = some w.heap.size) := by
 have HO := qh h
 obtain ⟨A, cc, rfl⟩ := ek h
 have HB := qh (show Reads w w.heap.size 68 (some ⟨gv, 0, none⟩) 1 (aX c) from ⟨by rw [bR], fun _ => ⟨_, rfl, hb.lt, fun j u hj => by rw [Addr.add_lit, Nat.zero_add, hb.cell, mO, List.getElem?_toArray]; exact hj⟩⟩)
 have H1 := qh (lU c)
 obtain ⟨i0, hi0⟩ : ∃ i0, Tryz.prog.info? 317 = some i0 := Option.isSome_iff_exists.1 (by kernel_rfl)
 have hz : i0.zero.map (·.cells.size) = some 68 ∧ i0.size = 68 ∧ i0.bytes = 88 := by
  have h1 : (Tryz.prog.info? 317).map (fun i => (i.zero.map (·.cells.size), i.size, i.bytes)) = some (some 68, 68, 88) := by kernel_rfl
  rw [hi0] at h1
  simpa using h1
 obtain ⟨hz1, hz2, hz3⟩ := hz
 obtain ⟨z, IZ, IY⟩ := Option.map_eq_some_iff.1 hz1
 have HZ := qh (And.intro hi0 (And.intro IZ (And.intro hz2 (And.intro hz3 IY))))
 clear hz1 hz2 hz3 hi0 IZ IY h hb
 obtain ⟨xs, hxs⟩ : ∃ xs, cellsOf aX l = xs := ⟨_, rfl⟩
 rw [hxs] at HO ⊢
 obtain ⟨n, hn⟩ : ∃ n, l.length = n := ⟨_, rfl⟩
 rw [hn] at HO hl ⊢
 clear hxs hn
 have hs1 : ∀ W, (Instr.slice 42 (.slice A n cc) (some (.int .i64 (n : Int))) none none).run Tryz.prog W = .ok (.slice (iN 68 cc n A) (n - n) (cc - n)) W := fun W => jg.fG W A n cc n (by omega)
 go_enter Tryz.func320, Tryz.ntmps320
 go_wp2_with ((with_reducible refine lY 25 23 24 ?_); refine dP _ rfl _ _ 42 rfl base 317 i0 z 68 88 Tryz.underlying42 HZ.out.1 HZ.out.2.1 HZ.out.2.2.1 HZ.out.2.2.2.1 HZ.out.2.2.2.2 (by omega) _ n xs rfl HO.out w.heap.size _ 1 1 (aX c) rfl HB.out H1.out (by unfold maxLen; omega) (by omega) hbase ?_; intro v5 w5 p5 g5 q5)
 go_ret
 exact ⟨v5, rfl, p5, g5, q5⟩
theorem zO (base g cap i : Nat) (l : List aD) (c : aD) (gv : Nat) (w : World) (h : w.ownsRow base 317 68 (.slice (some ⟨g, 0, none⟩) l.length cap) l.length (cellsOf aX l)) (hi : i < l.length) (hroom : l.length + 1 ≤ cap) (hl : l.length ≤ 100000) (hb : ax w gv 317 (cellsOf aX [c]).toArray) (hne : gv ≠ g) :
 Calls Tryz.prog 320 #[.slice (some ⟨g, 0, none⟩) l.length cap, .int .i64 i, .slice (some ⟨gv, 0, none⟩) 1 1] w fun e w' => e = .returned (.slice (some ⟨g, 0, none⟩) (l.length + 1) cap) ∧ w'.ownsRow base 317 68 (.slice (some ⟨g, 0, none⟩) (l.length + 1) cap) (l.length + 1) (cellsOf aX (iV l i c)) ∧ Only [g] w w' := by
 obtain ⟨cur, hbc, hbase, hcap, hcm, hcs, ht⟩ := oC h
 obtain ⟨ys, hyl, h2⟩ := J8 h (l.length + 1) (by omega) hroom
 rw [Nat.add_sub_cancel_left, Nat.one_mul] at hyl
 have HO := qh h2
 have hrd := vH h i (l.length - i) (by omega)
 rw [jA bR, List.take_of_length_le (by rw [aT bR, List.length_drop]; exact Nat.le_refl _)] at hrd
 have Wn := qh hrd
 have HI := qh (show ((cellsOf aX l ++ ys).take ((i + 1) * 68) ++ cellsOf aX (l.drop i) ++ (cellsOf aX l ++ ys).drop ((i + 1) * 68 + (cellsOf aX (l.drop i)).length)).take (i * 68) ++ aX c ++ ((cellsOf aX l ++ ys).take ((i + 1) * 68) ++ cellsOf aX (l.drop i) ++ (cellsOf aX l ++ ys).drop ((i + 1) * 68 + (cellsOf aX (l.drop i)).length)).drop (i * 68 + (aX c).length) = cellsOf aX (iV l i c) from by
  rw [qg, Fq l i, Nat.add_mul, Nat.one_mul]
  exact Kw (cellsOf aX (l.take i)) ys (aX c) (cellsOf aX (l.drop i)) (i * 68) 68 (by rw [aT bR, List.length_take, Nat.min_eq_left (by omega)]) (bR c) hyl)
 have HB := qh (show ∀ W, Only [g] w W → Reads W W.heap.size 68 (some ⟨gv, 0, none⟩) 1 (aX c) from fun W o => ⟨by rw [bR], fun _ => ⟨_, rfl, (o.blk hb (by simpa using hne)).lt, fun j u hj => by rw [Addr.add_lit, Nat.zero_add, (o.blk hb (by simpa using hne)).cell, mO, List.getElem?_toArray]; exact hj⟩⟩)
 have H1 := qh (lU c)
 have H2 := qh (dB lU (l.drop i))
 have UH : cur.size ≠ 0 := by rw [hcs]; omega
 have hsa : w.shape? gv = some (317, (cellsOf aX [c]).toArray.size) := Ad hb
 have hsb : w.shape? g = some (317, cur.size) := Ad hbc
 have hov : ∀ lb cb, (callFunc 336 #[.slice (some ⟨gv, 0, none⟩) 1 1, .slice (some ⟨g, (i + 1) * 68, none⟩) lb cb]).run Tryz.prog w = .ok (.value (.bool false)) w := fun lb cb => by
  rw [run_callFunc_extern Tryz.func336 (by kernel_rfl) (by kernel_rfl) (by kernel_rfl) (e := Extern.SlicesOverlaps.overlaps #[42, 42] #[4]) (by kernel_rfl),
   Lib.run_overlaps_apart w 42 4 317 Tryz.underlying42 68 jg.sizeOf ⟨gv, 0, none⟩ ⟨g, (i + 1) * 68, none⟩ 1 1 lb cb hne 317 317 _ _ hsa hsb UH (hb.frozen 0) (hb.frozen _)]
  rfl
 obtain ⟨D, hD⟩ : ∃ D, cellsOf aX (l.drop i) = D := ⟨_, rfl⟩
 obtain ⟨X, hX⟩ : ∃ X, cellsOf aX (iV l i c) = X := ⟨_, rfl⟩
 obtain ⟨Y, hY⟩ : ∃ Y, cellsOf aX l ++ ys = Y := ⟨_, rfl⟩
 rw [hD, hX, hY] at HI
 rw [hD] at Wn H2
 rw [hY] at HO
 rw [hX]
 obtain ⟨n, hn⟩ : ∃ n, l.length = n := ⟨_, rfl⟩
 rw [hn] at HO Wn hi hl hroom hcap ⊢
 unfold maxLen at hcm
 clear h h2 hrd hb hbc hcs ht hn hD hX hY hsa hsb hyl UH
 have hs1 : ∀ W, (Instr.slice 42 (.slice (some ⟨g, 0, none⟩) n cap) (some (.int .i64 (i : Int))) none none).run Tryz.prog W = .ok (.slice (iN 68 cap i (some ⟨g, 0, none⟩)) (n - i) (cap - i)) W := fun W => jg.fG W (some ⟨g, 0, none⟩) n cap i (by omega)
 have hs2 : ∀ W, (Instr.slice 42 (.slice (some ⟨g, 0, none⟩) n cap) none (some (.int .i64 ((n : Int) + 1))) none).run Tryz.prog W = .ok (.slice (some ⟨g, 0, none⟩) (n + 1) cap) W := fun W => jg.tT W (some ⟨g, 0, none⟩) n cap (n + 1) (by omega)
 have hs3 : ∀ W, (Instr.slice 42 (.slice (some ⟨g, 0, none⟩) (n + 1) cap) (some (.int .i64 ((i : Int) + 1))) none none).run Tryz.prog W = .ok (.slice (some ⟨g, (i + 1) * 68, none⟩) (n + 1 - (i + 1)) (cap - (i + 1))) W := fun W => by
  have := jg.fG W (some ⟨g, 0, none⟩) (n + 1) cap (i + 1) (by omega)
  rw [show ((i + 1 : Nat) : Int) = (i : Int) + 1 by omega] at this
  rw [this]
  unfold iN
  rw [if_neg (by omega)]
  simp [Addr.add_lit]
 have hs4 : ∀ W, (Instr.slice 42 (.slice (some ⟨g, 0, none⟩) (n + 1) cap) (some (.int .i64 (i : Int))) none none).run Tryz.prog W = .ok (.slice (some ⟨g, i * 68, none⟩) (n + 1 - i) (cap - i)) W := fun W => by
  rw [jg.fG W (some ⟨g, 0, none⟩) (n + 1) cap i (by omega)]
  unfold iN
  rw [if_neg (by omega)]
  simp [Addr.add_lit]
 have HS3 := qh hs3
 have HS4 := qh hs4
 have hne1 : ((i : Int) == (n : Int)) = false := beq_eq_false_iff_ne.mpr (by omega)
 have hw1 : IntKind.i64.wrap ((n : Int) + 1) = (n : Int) + 1 := by rw [IntKind.wrap_i64]; omega
 have hw2 : IntKind.i64.wrap ((i : Int) + 1) = (i : Int) + 1 := by rw [IntKind.wrap_i64]; omega
 have hgt : decide ((cap : Int) < (n : Int) + 1) = false := by simp; omega
 go_enter Tryz.func320, Tryz.ntmps320
 go_wp2_with (simp only [hov])
 clear hs1 hs2 hne1 hov
 refine wp_region_held_drew (S := fun _ => True) (by kernel_rfl) trivial ?_
 intro hS
 refine tkp 0 (.slice (some ⟨g, 0, none⟩) (n + 1) cap) rfl hS ?_
 simp only [Act.put, List.getElem_toArray, List.getElem_cons_zero, List.setIfInBounds_toArray, List.set_cons_succ, List.set_cons_zero]
 refine tkp 1 (.int .i64 i) rfl hS ?_
 simp only [Act.put, List.getElem_toArray, List.getElem_cons_zero, List.getElem_cons_succ, List.setIfInBounds_toArray, List.set_cons_succ, List.set_cons_zero]
 refine tkp 2 (.int .i64 1) rfl hS ?_
 simp only [Act.put, List.getElem_toArray, List.getElem_cons_zero, List.getElem_cons_succ, List.setIfInBounds_toArray, List.set_cons_succ, List.set_cons_zero]
 refine tkp 3 (.int .i64 ((i : Int) + 1)) rfl hS ?_
 simp only [Act.put, List.getElem_toArray, List.getElem_cons_zero, List.getElem_cons_succ, List.setIfInBounds_toArray, List.set_cons_succ, List.set_cons_zero]
 refine tk 4 (.slice (some ⟨g, (i + 1) * 68, none⟩) (n + 1 - (i + 1)) (cap - (i + 1))) rfl (Or.inl ⟨by rfl, fun W _ => by have h2 := HS3.out; go_simp; try with_reducible rfl⟩) hS ?_
 simp only [Act.put, List.getElem_toArray, List.getElem_cons_zero, List.getElem_cons_succ, List.setIfInBounds_toArray, List.set_cons_succ, List.set_cons_zero]
 refine tkp 5 (.slice (some ⟨g, 0, none⟩) (n + 1) cap) rfl hS ?_
 simp only [Act.put, List.getElem_toArray, List.getElem_cons_zero, List.getElem_cons_succ, List.setIfInBounds_toArray, List.set_cons_succ, List.set_cons_zero]
 refine tkp 6 (.int .i64 i) rfl hS ?_
 simp only [Act.put, List.getElem_toArray, List.getElem_cons_zero, List.getElem_cons_succ, List.setIfInBounds_toArray, List.set_cons_succ, List.set_cons_zero]
 refine tk 7 (.slice (some ⟨g, i * 68, none⟩) (n + 1 - i) (cap - i)) rfl (Or.inl ⟨by rfl, fun W _ => by have h2 := HS4.out; go_simp; try with_reducible rfl⟩) hS ?_
 simp only [Act.put, List.getElem_toArray, List.getElem_cons_zero, List.getElem_cons_succ, List.setIfInBounds_toArray, List.set_cons_succ, List.set_cons_zero]
 refine rd 8 rfl (fun Kq hK => ?_)
 refine jg.rD rfl (.tmp 73) (.tmp 76) rfl base g (n + 1) cap _ (Eh HO.out) (i + 1) (n + 1 - (i + 1)) (cap - (i + 1)) (n + 1 - i) (cap - i) (n - i) w.heap.size _ D rfl rfl (by omega) (by omega) Wn.out.drew H2.out (by omega) ?_
 intro w4 o4 r4
 have O4 := qh (show Only [g] w w4 from (Only.refl _ _).drew.trans o4)
 have R4 := qh r4
 clear o4 r4
 refine hK.out _ _ trivial (fun hS => ?_)
 clear hK Kq
 refine wpAnyH_done (by kernel_rfl) ?_ _
 go_wp2_with ((with_reducible refine FH 82 80 81 ?_); refine jg.wpList_copy_own rfl (.tmp 80) (.tmp 81) rfl base g (n + 1) cap _ R4.out i (n + 1 - i) (cap - i) 1 1 1 _ _ (aX c) rfl rfl (by omega) (by omega) (HB.out _ O4.out) H1.out (by omega) ?_; intro w5 o5 r5; rw [HI.out] at r5)
 go_ret
 exact ⟨rfl, r5, O4.out.trans o5⟩
theorem Cz (base g cap i : Nat) (l : List aD) (c : aD) (gv : Nat) (w : World) (h : w.ownsRow base 317 68 (.slice (some ⟨g, 0, none⟩) l.length cap) l.length (cellsOf aX l)) (hi : i < l.length) (hroom : cap < l.length + 1) (hl : l.length ≤ 100000) (hb : ax w gv 317 (cellsOf aX [c]).toArray) :
 Calls Tryz.prog 320 #[.slice (some ⟨g, 0, none⟩) l.length cap, .int .i64 i, .slice (some ⟨gv, 0, none⟩) 1 1] w fun e w' => ∃ c', e = .returned (.slice (some ⟨w.heap.size, 0, none⟩) (l.length + 1) c') ∧ w'.ownsRow w.heap.size 317 68 (.slice (some ⟨w.heap.size, 0, none⟩) (l.length + 1) c') (l.length + 1) (cellsOf aX (iV l i c)) ∧ Below w.heap.size w w' := by
 obtain ⟨cur, hbc, hbase, hcap, hcm, hcs, ht⟩ := oC h
 have h1 := Nz h i (by omega)
 rw [oL bR] at h1
 have HO := qh h1
 have hrd := vH h i (l.length - i) (by omega)
 rw [jA bR, List.take_of_length_le (by rw [aT bR, List.length_drop]; exact Nat.le_refl _)] at hrd
 have Wn := qh hrd
 have HI := qh (show ∀ ys : List Value, ys.length = (l.length + 1 - i) * 68 → ((cellsOf aX (l.take i) ++ ys).take (i * 68) ++ aX c ++ (cellsOf aX (l.take i) ++ ys).drop (i * 68 + (aX c).length)).take ((i + 1) * 68) ++ cellsOf aX (l.drop i) ++ ((cellsOf aX (l.take i) ++ ys).take (i * 68) ++ aX c ++ (cellsOf aX (l.take i) ++ ys).drop (i * 68 + (aX c).length)).drop ((i + 1) * 68 + (cellsOf aX (l.drop i)).length) = cellsOf aX (iV l i c) from fun ys hy => by
  rw [qg, Nat.add_mul, Nat.one_mul]
  exact Pe (cellsOf aX (l.take i)) ys (aX c) (cellsOf aX (l.drop i)) (i * 68) 68 (by rw [aT bR, List.length_take, Nat.min_eq_left (by omega)]) (bR c) (by rw [hy, aT bR, List.length_drop]; omega))
 have HB := qh (show Reads w w.heap.size 68 (some ⟨gv, 0, none⟩) 1 (aX c) from ⟨by rw [bR], fun _ => ⟨_, rfl, hb.lt, fun j u hj => by rw [Addr.add_lit, Nat.zero_add, hb.cell, mO, List.getElem?_toArray]; exact hj⟩⟩)
 have H1 := qh (lU c)
 have H2 := qh (dB lU (l.drop i))
 obtain ⟨bb, hbb, hbl⟩ := aax
 have WW := qh hbb
 obtain ⟨D, hD⟩ : ∃ D, cellsOf aX (l.drop i) = D := ⟨_, rfl⟩
 obtain ⟨X, hX⟩ : ∃ X, cellsOf aX (iV l i c) = X := ⟨_, rfl⟩
 obtain ⟨Y, hY⟩ : ∃ Y, cellsOf aX (l.take i) = Y := ⟨_, rfl⟩
 rw [hD, hX, hY] at HI
 rw [hD] at Wn H2
 rw [hY] at HO
 rw [hX]
 obtain ⟨n, hn⟩ : ∃ n, l.length = n := ⟨_, rfl⟩
 rw [hn] at Wn HI hi hl hroom hcap ⊢
 unfold maxLen at hcm
 clear h h1 hrd hb hbc hcs ht hn hD hX hY hbb
 have hs1 : ∀ W, (Instr.slice 42 (.slice (some ⟨g, 0, none⟩) n cap) (some (.int .i64 (i : Int))) none none).run Tryz.prog W = .ok (.slice (some ⟨g, i * 68, none⟩) (n - i) (cap - i)) W := fun W => by
  rw [jg.fG W (some ⟨g, 0, none⟩) n cap i (by omega)]
  unfold iN
  rw [if_neg (by omega)]
  simp [Addr.add_lit]
 have hs2 : ∀ W, (Instr.slice 42 (.slice (some ⟨g, 0, none⟩) n cap) none (some (.int .i64 (i : Int))) none).run Tryz.prog W = .ok (.slice (some ⟨g, 0, none⟩) i cap) W := fun W => jg.tT W (some ⟨g, 0, none⟩) n cap i (by omega)
 have HS3 := qh (show ∀ W c', n + 1 ≤ c' → (Instr.slice 42 (.slice (some ⟨w.heap.size, 0, none⟩) (n + 1) c') (some (.int .i64 ((i : Int) + 1))) none none).run Tryz.prog W = .ok (.slice (some ⟨w.heap.size, (i + 1) * 68, none⟩) (n + 1 - (i + 1)) (c' - (i + 1))) W from fun W c' hc' => by
  have := jg.fG W (some ⟨w.heap.size, 0, none⟩) (n + 1) c' (i + 1) (by omega)
  rw [show ((i + 1 : Nat) : Int) = (i : Int) + 1 by omega] at this
  rw [this]
  unfold iN
  rw [if_neg (by omega)]
  simp [Addr.add_lit])
 have HS4 := qh (show ∀ W c', n + 1 ≤ c' → (Instr.slice 42 (.slice (some ⟨w.heap.size, 0, none⟩) (n + 1) c') (some (.int .i64 (i : Int))) none none).run Tryz.prog W = .ok (.slice (some ⟨w.heap.size, i * 68, none⟩) (n + 1 - i) (c' - i)) W from fun W c' hc' => by
  rw [jg.fG W (some ⟨w.heap.size, 0, none⟩) (n + 1) c' i (by omega)]
  unfold iN
  rw [if_neg (by omega)]
  simp [Addr.add_lit])
 have HS1 := qh hs1
 have hne1 : ((i : Int) == (n : Int)) = false := beq_eq_false_iff_ne.mpr (by omega)
 have hw1 : IntKind.i64.wrap ((n : Int) + 1) = (n : Int) + 1 := by rw [IntKind.wrap_i64]; omega
 have hw2 : IntKind.i64.wrap ((i : Int) + 1) = (i : Int) + 1 := by rw [IntKind.wrap_i64]; omega
 have hw3 : IntKind.i64.wrap ((n : Int) + 1 - (i : Int)) = ((n + 1 - i : Nat) : Int) := by rw [IntKind.wrap_i64]; omega
 have hgt : decide ((cap : Int) < (n : Int) + 1) = true := by simp; omega
 go_enter Tryz.func320, Tryz.ntmps320
 go_wp2_with (first
  | ((with_reducible refine lY 40 34 39 ?_); refine jg.qW rfl (.tmp 34) (.tmp 39) 3 .i64 Ta rfl aaw bb WW.out hbl base g i cap Y rfl HO.out (n + 1 - i) rfl (by omega) (by omega) (by omega) ?_; intro w1 c1 ys l1 b1 r1
     rw [show i + (n + 1 - i) = n + 1 by omega] at r1 ⊢
     have R1 := qh r1
     have B1 := qh b1
     have YL := qh l1
     have hc1 : n + 1 ≤ c1 := by obtain ⟨_, _, _, h, _⟩ := oC r1; exact h
     have hs4 := fun W => HS4.out W c1 hc1
     clear r1 b1 l1)
  | ((with_reducible refine FH 45 43 44 ?_); refine jg.wpList_copy_own rfl (.tmp 43) (.tmp 44) rfl w.heap.size w.heap.size (n + 1) c1 _ R1.out i (n + 1 - i) (c1 - i) 1 1 1 _ _ (aX c) rfl rfl (by omega) (by omega) (HB.out.below B1.out) H1.out (by omega) ?_; intro w2 o2 r2
     have R2 := qh r2
     have B2 := qh (B1.out.trans (o2.below (by simp)))
     clear r2 o2))
 clear hs1 hs2 hne1 hs4
 have HS5 := qh (fun W => HS3.out W c1 hc1)
 refine wp_region_held_drew (S := fun _ => True) (by kernel_rfl) trivial ?_
 intro hS
 refine tkp 0 (.slice (some ⟨w.heap.size, 0, none⟩) (n + 1) c1) rfl hS ?_
 simp only [Act.put, List.getElem_toArray, List.getElem_cons_zero, List.setIfInBounds_toArray, List.set_cons_succ, List.set_cons_zero]
 refine tkp 1 (.int .i64 i) rfl hS ?_
 simp only [Act.put, List.getElem_toArray, List.getElem_cons_zero, List.getElem_cons_succ, List.setIfInBounds_toArray, List.set_cons_succ, List.set_cons_zero]
 refine tkp 2 (.int .i64 1) rfl hS ?_
 simp only [Act.put, List.getElem_toArray, List.getElem_cons_zero, List.getElem_cons_succ, List.setIfInBounds_toArray, List.set_cons_succ, List.set_cons_zero]
 refine tkp 3 (.int .i64 ((i : Int) + 1)) rfl hS ?_
 simp only [Act.put, List.getElem_toArray, List.getElem_cons_zero, List.getElem_cons_succ, List.setIfInBounds_toArray, List.set_cons_succ, List.set_cons_zero]
 refine tk 4 (.slice (some ⟨w.heap.size, (i + 1) * 68, none⟩) (n + 1 - (i + 1)) (c1 - (i + 1))) rfl (Or.inl ⟨by rfl, fun W _ => by have h2 := HS5.out; go_simp; try with_reducible rfl⟩) hS ?_
 simp only [Act.put, List.getElem_toArray, List.getElem_cons_zero, List.getElem_cons_succ, List.setIfInBounds_toArray, List.set_cons_succ, List.set_cons_zero]
 refine tkp 5 (.slice (some ⟨g, 0, none⟩) n cap) rfl hS ?_
 simp only [Act.put, List.getElem_toArray, List.getElem_cons_zero, List.getElem_cons_succ, List.setIfInBounds_toArray, List.set_cons_succ, List.set_cons_zero]
 refine tkp 6 (.int .i64 i) rfl hS ?_
 simp only [Act.put, List.getElem_toArray, List.getElem_cons_zero, List.getElem_cons_succ, List.setIfInBounds_toArray, List.set_cons_succ, List.set_cons_zero]
 refine tk 7 (.slice (some ⟨g, i * 68, none⟩) (n - i) (cap - i)) rfl (Or.inl ⟨by rfl, fun W _ => by have h2 := HS1.out; go_simp; try with_reducible rfl⟩) hS ?_
 simp only [Act.put, List.getElem_toArray, List.getElem_cons_zero, List.getElem_cons_succ, List.setIfInBounds_toArray, List.set_cons_succ, List.set_cons_zero]
 refine rd 8 rfl (fun Kq hK => ?_)
 refine jg.rD rfl (.tmp 50) (.tmp 53) rfl w.heap.size w.heap.size (n + 1) c1 _ (Eh R2.out) (i + 1) (n + 1 - (i + 1)) (c1 - (i + 1)) (n - i) (cap - i) (n - i) w.heap.size _ D rfl rfl (by omega) (by omega) (Wn.out.below B2.out.drew) H2.out (by omega) ?_
 intro w4 o4 r4
 have hi4 := HI.out ys YL.out
 rw [hi4] at r4
 have R4 := qh r4
 have B4 := qh (B2.out.drew.trans (o4.below (by simp)))
 clear o4 r4 hi4
 refine hK.out _ _ trivial (fun hS => ?_)
 clear hK Kq
 refine wpAnyH_done (by kernel_rfl) ?_ _
 go_wp2_with fail
 go_ret
 exact ⟨c1, rfl, R4.out, B4.out⟩
theorem mQ (base : Nat) (v : Value) (l : List aD) (i : Nat) (c : aD) (gv : Nat) (w : World) (h : w.ownsRow base 317 68 v l.length (cellsOf aX l)) (hi : i ≤ l.length) (hl : l.length ≤ 100000) (hb : ax w gv 317 (cellsOf aX [c]).toArray) (hne : v.ownBlock ≠ some gv) (hbase : base ≤ w.heap.size) :
 Calls Tryz.prog 320 #[v, .int .i64 i, .slice (some ⟨gv, 0, none⟩) 1 1] w fun e w' => ∃ v', e = .returned v' ∧ w'.ownsRow base 317 68 v' (iV l i c).length (cellsOf aX (iV l i c)) ∧ w.grownBy w' v.ownBlock ∧ (v'.ownBlock = v.ownBlock ∨ v'.ownBlock = some w.heap.size) := by
 rcases Nat.lt_or_ge i l.length with h1 | h1
 ·rcases h.2 with ⟨rfl, h0⟩ | ⟨g, cap, cur, rfl, hbg, hg, hnc, hcm, hcs, ht⟩
  ·omega
  ·rcases Nat.lt_or_ge cap (l.length + 1) with h2 | h2
   ·refine (Cz base g cap i l c gv w h h1 h2 hl hb).mono ?_
    rintro e w' ⟨c', rfl, r, b⟩
    refine ⟨_, rfl, ?_, ⟨b.os, b.tape, b.output, b.size, fun k hk _ => b.block k hk⟩, .inr rfl⟩
    rw [vN]
    exact J9 r hbase
   ·refine (zO base g cap i l c gv w h h1 h2 hl hb (fun e => hne (by subst e; rfl))).mono ?_
    rintro e w' ⟨rfl, r, o⟩
    refine ⟨_, rfl, by rw [vN]; exact r, ⟨o.os, o.tape, o.output, Nat.le_of_eq o.size.symm, fun k hk hk2 => o.block k (fun hm => hk2 (by rw [List.mem_singleton] at hm; subst hm; rfl))⟩, .inl rfl⟩
 ·obtain rfl : i = l.length := by omega
  refine (Fu base v l c gv w h hl hb hbase).mono ?_
  rintro e w' ⟨v', rfl, r, g', q⟩
  refine ⟨v', rfl, ?_, g', q⟩
  rw [vN, qg, List.take_of_length_le (Nat.le_refl _), List.drop_of_length_le (Nat.le_refl _), cellsOf_nil, List.append_nil]
  exact r
end
section
open Go.RowKit
section
variable {α : Type} {enc : α → List Value} {k : Nat} {P : Program} {t e : TypeId} (T : cu P t e enc k)
include T
theorem cu.Gf (w : World) (A : Option Addr) (n c i m : Nat) (hi : i + m = n) (hc : n ≤ c) :
 (Instr.slice t (.slice A n c) (some (.int .i64 (i : Int))) (some (.int .i64 (n : Int))) (some (.int .i64 (n : Int)))).run P w = .ok (.slice (iN k n i A) m m) w := by
 have he : P.elem t = e := by simp [Program.elem, T.slice]
 rw [run_slice_lhm w t A n c (by rw [he]; exact T.slice) .i64 .i64 .i64 i n n (by omega) (by omega) (by omega) (by omega), he, T.sizeOf]
 simp only [Result.andThen_ok, sliced, Int.toNat_natCast, iN]
 rw [show n - i = m by omega]
theorem cu.pE {ops : Array Oper} {o : Oper} {a : Act} {w : World} {K : Act → World → Prop} {Q : Exit → Act → World → Prop} {E : Prop} (hgd : o.guard = none) (hz : ((P.info? e).bind (·.zero)).map (·.cells.size) = some k) (bytes : Nat) (hb : (P.info? e).map (·.bytes) = some bytes) (hby : bytes ≤ 100000) (s x : Operand)
 (ho : o.op = .call { callee := .builtin .append, args := #[s, x], argTypes := #[t, t] })
 (B : Nat) (A : Option Addr) (n : Nat) (l : List α) (hl : l.length = n) (hs : a.eval s = .slice A n n) (hr : aK enc k w B A n l)
 (g c : Nat) (y : α) (hx : a.eval x = .slice (some ⟨g, 0, none⟩) 1 c) (hg : ax w g e (cellsOf enc [y]).toArray) (hn : n ≤ 1000000)
 (h : ∀ v' w', w'.ownsRow w.heap.size e k v' (l ++ [y]).length (cellsOf enc (l ++ [y])) → w.grownBy w' none → K (a.put o.dst v') w') : if Region.wanted o (yielded ops a.tmps) = true then Oper.wp P o a w K Q else E := by
 have hsz := T.size
 cases hie : P.info? e with
 | none => simp [hie] at hsz
 | some ie =>
  simp only [hie, Option.map_some, Option.some.injEq, Option.bind_some, Option.map_eq_some_iff] at hsz hz hb
  obtain ⟨z, hz1, hz2⟩ := hz
  refine step_append_grows hgd s x t ho e ie z k bytes T.slice hie hz1 hsz hb hz2 T.pos A n n (cellsOf enc l) hs ?_ (by rw [aT T.len, hl]) ?_ ⟨g, 0, none⟩ 1 c (cellsOf enc [y]) hx (by rw [aT T.len]; rfl) ?_ (dB T.one _) (by omega) (by unfold maxLen; omega) ?_ ?_
  ·intro hA
   have : l = [] := Classical.byContradiction fun hne => by
    obtain ⟨g', o', e', _⟩ := hr.cells hne
    rw [hA] at e'; cases e'
   subst this
   exact ⟨hl.symm, hl.symm⟩
  ·intro b hb' j u hj
   by_cases hne : l = []
   ·subst hne; simp [cellsOf] at hj
   ·obtain ⟨g', o', e', _, hc⟩ := hr.cells hne
    rw [hb'] at e'
    obtain rfl := Option.some.inj e'
    have hadd : (⟨g', o', none⟩ : Addr).add j = ⟨g', o' + j, none⟩ := by unfold Addr.add; split <;> simp_all
    rw [hadd]
    exact hc j u hj
  ·intro j u hj
   have hadd : (⟨g, 0, none⟩ : Addr).add j = ⟨g, 0 + j, none⟩ := by unfold Addr.add; split <;> simp_all
   rw [hadd]
   exact au.ah hg j u (by simpa using hj)
  ·have : (n + 1) * bytes ≤ 1000001 * 100000 := Nat.mul_le_mul (by omega) hby
   omega
  ·intro v' w' h2 h3
   exact h v' w' (by rw [List.length_append, bS, hl]; exact h2) h3
end
section
variable {α : Type} {enc : α → List Value} {k : Nat} {w : World} {B c : Nat} {A : Option Addr} {l : List α}
theorem aK.trim (h : aK enc k w B A c l) : aK enc k w B A l.length l := ⟨Nat.le_refl _, Nat.le_trans h.le h.max, h.cells⟩
end
theorem mg {P : Program} {ops : Array Oper} {S : World → Prop} {a : Act} {o : Oper} (hw : Region.wanted o (yielded ops a.tmps) = true) (ty : TypeId) (x : Operand) (ho : o.op = .load ty x)
 (p : Addr) (hx : a.eval x = .pointer (some p)) (v : Value) (ha : ∀ w, (isAgg ty).run P w = .ok false w) (hg : ∀ w, S w → w.cell? p = some v) : YieldsIf P ops S o v a :=
 .inl ⟨hw, fun w hS => by
  unfold execOp
  simp only [ho, hx, Instr.loadAt, Instr.sureAddr, Sem.run_bind, Sem.run_pure, Result.andThen_ok, fP ha (hg w hS)]⟩
theorem yM (n : Nat) (l : List aS) (k : aS) : bU (n + 1) (l ++ [k]) = bU n l ++ [k] := by
 unfold bU
 rw [List.length_append, List.length_singleton, show l.length + 1 - (n + 1) = l.length - n by omega, List.drop_append_of_le_length (by omega)]
def tailA (n : Nat) (A : Option Addr) (l : List aS) : Option Addr := iN 32 l.length (l.length - n) A
theorem xN {w : World} {B c n : Nat} {A : Option Addr} {l : List aS} (h : aK ak 32 w B A c l) : aK ak 32 w B (tailA n A l) (bU n l).length (bU n l) := by
 have := h.trim.drop aC (l.length - n) (by omega)
 have e : l.length - (l.length - n) = (bU n l).length := by rw [lq]; omega
 rw [e] at this
 exact this
theorem Dz (A : Option Addr) (c n : Nat) (l : List aS) (w : World) (hn : l.length ≤ 1000) (hk : n ≤ 1000) (hc : l.length ≤ c) :
 Calls Tryz.prog 19 #[.slice A l.length c, .int .i64 (n : Int)] w fun e w' => e = .returned (.slice (tailA n A l) (bU n l).length (bU n l).length) ∧ w' = w := by
 obtain ⟨s, hs⟩ : ∃ s, l.length - n = s := ⟨_, rfl⟩
 have aaQ : max (0 : Int) ((l.length : Int) - (n : Int)) = (s : Int) := by omega
 have hsw : IntKind.i64.wrap ((l.length : Int) - (n : Int)) = (l.length : Int) - (n : Int) := by rw [IntKind.wrap_i64]; omega
 have hsl : ∀ W, (Instr.slice 22 (.slice A l.length c) (some (.int .i64 (s : Int))) (some (.int .i64 (l.length : Int))) (some (.int .i64 (l.length : Int)))).run Tryz.prog W = .ok (.slice (tailA n A l) (bU n l).length (bU n l).length) W := fun W => by
  have := eH.Gf W A l.length c s (bU n l).length (by rw [lq]; omega) hc
  unfold tailA
  rw [hs]
  exact this
 clear hs
 go_enter Tryz.func19, Tryz.ntmps19
 go_wp2_with fail
 go_ret
 exact ⟨rfl, rfl⟩
theorem Ab (A : Option Addr) (c : Nat) (l : List aS) (w : World) (hn : l.length ≤ 1000) (hc : l.length ≤ c) :
 Calls Tryz.prog 19 #[.slice A l.length c, .int .i64 7] w fun e w' => e = .returned (.slice (tailA 7 A l) (bU 7 l).length (bU 7 l).length) ∧ w' = w := Dz A c 7 l w hn (by decide) hc
theorem Jt (A : Option Addr) (c : Nat) (l : List aS) (w : World) (hn : l.length ≤ 1000) (hc : l.length ≤ c) :
 Calls Tryz.prog 19 #[.slice A l.length c, .int .i64 4] w fun e w' => e = .returned (.slice (tailA 4 A l) (bU 4 l).length (bU 4 l).length) ∧ w' = w := Dz A c 4 l w hn (by decide) hc
end
section
open Go.RowKit
theorem Zg : Tryz.prog.underlying 35 = some (.struct #[(Tryz.prog.fieldsOf 35)[0]!]) := by kernel_rfl
structure Ij (w : World) (A : Option Addr) (c : Nat) (l : List aS) (k : aS) (W : World) : Prop where
 below : Below w.heap.size w W
 QV : ax W w.heap.size 35 #[.slice A l.length c]
 kb : ax W (w.heap.size + 1) 26 (ak k).toArray
 out : ax W (w.heap.size + 1 + 1) 35 #[.slice none 0 0]
 row : aK ak 32 W w.heap.size A c l
section
variable {w W W' : World} {A : Option Addr} {c : Nat} {l : List aS} {k : aS}
theorem Ij.on (h : Ij w A c l k W) (hb : Below W.heap.size W W') : Ij w A c l k W' :=
 ⟨h.below.trans (hb.mono h.below.size), aa hb h.QV h.QV.lt, aa hb h.kb h.kb.lt, aa hb h.out h.out.lt, h.row.below (hb.mono h.below.size)⟩
theorem Ij.drew (h : Ij w A c l k W) : Ij w A c l k W.drew := ⟨h.below.drew, h.QV, h.kb, h.out, h.row.drewN 1⟩
end
end
section
open Go.RowKit
theorem foldl_set : ∀ (l : List Value) (k off : Nat) (cs : Array Value), off + k + l.length ≤ cs.size →
 (l.zipIdx k).foldl (fun cs p => cs.setIfInBounds (off + p.2) p.1) cs = (cs.toList.take (off + k) ++ l ++ cs.toList.drop (off + k + l.length)).toArray
 | [], k, off, cs, h => by simp
 | x :: l, k, off, cs, h => by
  rw [List.zipIdx_cons, List.foldl_cons, foldl_set l (k + 1) off _ (by simp at h ⊢; omega)]
  have hl : off + k < cs.toList.length := by simp at h ⊢; omega
  congr 1
  rw [Array.toList_setIfInBounds]
  rw [show off + (k + 1) = off + k + 1 by omega]
  rw [List.take_succ_eq_append_getElem (by rw [List.length_set]; exact hl), List.getElem_set_self, List.take_set_of_le (by omega)]
  rw [List.drop_set_of_lt (by omega), List.length_cons]
  simp [Nat.add_assoc, Nat.add_comm 1]
def Wd (place : Nat → Option (Nat × Nat)) : Nat → List (Nat × Value) → Prop
 | _, [] => True
 | off, (i, v) :: r => place i = some (off, v.cells.size) ∧ Wd place (off + v.cells.size) r
def Rh : List (Nat × Value) → Nat
 | [] => 0
 | (_, v) :: r => v.cells.size + Rh r
theorem ES (place : Nat → Option (Nat × Nat)) : ∀ (parts : List (Nat × Value)) (pre tl : List Value), Wd place pre.length parts → tl.length = Rh parts →
 Instr.fill place (pre ++ tl).toArray parts = some (pre ++ parts.flatMap (fun p => p.2.cells.toList)).toArray
 | [], pre, tl, _, h => by
  have : tl = [] := List.length_eq_zero_iff.1 h
  subst this
  simp [Instr.fill]
 | (i, v) :: r, pre, tl, hs, h => by
  obtain ⟨h1, h2⟩ := hs
  unfold Rh at h
  unfold Instr.fill
  simp only [h1]
  rw [if_neg (by simp; omega)]
  have hf : (v.cells.zipIdx.foldl (fun cs p => cs.setIfInBounds (pre.length + p.2) p.1) (pre ++ tl).toArray) = ((pre ++ v.cells.toList) ++ tl.drop v.cells.size).toArray := by
   have := foldl_set v.cells.toList 0 pre.length (pre ++ tl).toArray (by simp; omega)
   rw [← Array.foldl_toList, Array.toList_zipIdx, this]
   simp [List.drop_append]
  have key := ES place r (pre ++ v.cells.toList) (tl.drop v.cells.size) (by rw [List.length_append, Array.length_toList]; exact h2) (by rw [List.length_drop]; omega)
  rw [show (fun (cs : Array Value) (x : Value × Nat) => match x with | (c, j) => cs.setIfInBounds (pre.length + j) c) = (fun cs p => cs.setIfInBounds (pre.length + p.2) p.1) from rfl, hf, key]
  simp
theorem lC {P : Program} {t : TypeId} {fields : Array Field} {places : List (Nat × Nat)} {n : Nat} {parts : List (Nat × Value)}
 (hz : ((P.info? t).bind (·.zero)).map (·.cells.size) = some n) (hu : P.underlying t = some (.struct fields))
 (hp : fields.toList.mapM (fun f => (P.info? f.type).map fun i => (f.offset, i.size)) = some places)
 (hs : Wd (places.toArray[·]?) 0 parts) (hn : n = Rh parts) : P.built t parts = some (parts.flatMap (fun p => p.2.cells.toList)).toArray := by
 cases hi : P.info? t with
 | none => rw [hi] at hz; cases hz
 | some it =>
  rw [hi] at hz
  cases hzz : it.zero with
  | none => rw [Option.bind_some, hzz] at hz; cases hz
  | some z =>
   rw [Option.bind_some, hzz, Option.map_some] at hz
   have hz2 : z.cells.size = n := Option.some.inj hz
   unfold Program.built
   simp only [hi, hu, hzz, hp]
   have := ES (places.toArray[·]?) parts [] z.cells.toList hs (by rw [Array.length_toList]; omega)
   simpa using this
end
section
open Go.RowKit
def Ib (c : eT) : CA := ⟨c, [], none, 0⟩
end
section
open Go.RowKit
theorem Gx (A : Option Addr) (c : Nat) (l : List (aQ .i64 × aS)) (B : Nat) (w : World) (hl : l.length ≤ 1000000) (hB : B ≤ w.heap.size) (h : aK (dR .i64) 33 w B A c l) :
 Calls Tryz.prog 147 #[.slice A l.length c] w fun e w' => ∃ v, e = .returned v ∧ w'.ownsRow w.heap.size 144 33 v l.length (cellsOf (dR .i64) l) ∧ Below w.heap.size w w' := by
 have HH := qh (h.reads (fU _))
 have H1 := qh (dB (qP _) l)
 have hn : A = none → l = [] := fun e => by
  cases l with
  | nil => rfl
  | cons x l => obtain ⟨g, o, e', _⟩ := h.cells (by simp); rw [e] at e'; cases e'
 clear h
 obtain ⟨xs, hxs⟩ : ∃ xs, cellsOf (dR .i64) l = xs := ⟨_, rfl⟩
 have QG := qh hxs
 rw [hxs] at HH H1 ⊢
 clear hxs
 have q22 : ∀ (w : World) (a : Option Addr) (n c n' c' : Nat), (binOp .eql 90 (.slice a n c) (.slice none n' c')).run Tryz.prog w = .ok (.bool a.isNone) w := fun w a n c n' c' => Lib.run_eql_slice_nil w _ _ a n c n' c' Tryz.underlying90
 rcases A with _ | ad
 ·have hl0 := hn rfl
  subst hl0
  have hx0 : xs = [] := by rw [← QG.out]; rfl
  subst hx0
  go_enter Tryz.func147, Tryz.ntmps147
  go_wp2_with fail
  go_ret
  exact ⟨_, rfl, ⟨rfl, .inl ⟨rfl, rfl⟩⟩, Below.refl _ _⟩
 ·clear hn
  obtain ⟨n, hn⟩ : ∃ n, l.length = n := ⟨_, rfl⟩
  rw [hn] at HH hl ⊢
  clear hn QG
  obtain ⟨i0, hi0⟩ : ∃ i0, Tryz.prog.info? 144 = some i0 := Option.isSome_iff_exists.1 (by kernel_rfl)
  have hz : i0.zero.map (·.cells.size) = some 33 ∧ i0.size = 33 ∧ i0.bytes = 40 := by
   have h1 : (Tryz.prog.info? 144).map (fun i => (i.zero.map (·.cells.size), i.size, i.bytes)) = some (some 33, 33, 40) := by kernel_rfl
   rw [hi0] at h1
   simpa using h1
  obtain ⟨hz1, hz2, hz3⟩ := hz
  obtain ⟨z, IZ, IY⟩ := Option.map_eq_some_iff.1 hz1
  have HZ := qh (And.intro hi0 (And.intro IZ (And.intro hz2 (And.intro hz3 IY))))
  clear hz1 hz2 hz3 hi0 IZ IY
  go_enter Tryz.func147, Tryz.ntmps147
  go_wp2_with (at_builtin; refine dP _ rfl _ _ 90 rfl w.heap.size 144 i0 z 33 40 Tryz.underlying90 HZ.out.1 HZ.out.2.1 HZ.out.2.2.1 HZ.out.2.2.2.1 HZ.out.2.2.2.2 (by omega) _ 0 [] rfl (World.ownsRow_made w #[] 0 (Nat.le_refl _) (Nat.zero_le _) (by simp)) B _ n c xs rfl ((HH.out.more hB).alloc (Nat.le_refl _) _ |> fun h => ⟨h.1, fun hp => let ⟨UQ, e1, e2, e3⟩ := HH.out.2 hp; ⟨UQ, e1, e2, let ⟨ad2, f1, f2, f3⟩ := h.2 hp; (Option.some.inj (e1.symm.trans f1)) ▸ f3⟩⟩) H1.out ?_ ?_ ?_ ?_)
  ·unfold maxLen; omega
  ·omega
  ·simp
  ·intro v' w1 hown hgrow _
   go_wp2_with fail
   go_ret
   refine ⟨v', rfl, by simpa using hown, ?_⟩
   exact ((Below.refl _ w).alloc (Nat.le_refl _) _).grown hgrow (by simp) (by intro k hk; simp [Value.ownBlock] at hk; omega)
structure Bq (lo : Nat) (w : World) (a : aY) : Prop where
 ins : w.ownsRow lo 142 33 (.slice a.Ai a.T.ins.length a.ci) a.T.ins.length (cellsOf (aR .u32) a.T.ins)
 outs : w.ownsRow lo 144 33 (.slice a.Ao a.T.outs.length a.co) a.T.outs.length (cellsOf (dR .i64) a.T.outs)
 av : w.ownsRow lo 26 32 (.slice a.An a.T.av.length a.cn) a.T.av.length (cellsOf ak a.T.av)
 notes : w.ownsRow lo 26 32 (.slice a.At a.T.notes.length a.ct) a.T.notes.length (cellsOf ak a.T.notes)
structure uZ (lo : Nat) (w : World) (b : bF) : Prop where
 row : w.ownsRow lo 92 38 (.slice b.A b.bG.length b.c) b.bG.length (cellsOf aY.cells b.bG)
 each : ∀ t ∈ b.bG, Bq lo w t
structure CZ (lo : Nat) (w : World) (a : eT) : Prop where
 aV : w.ownsRow lo 317 68 (.slice a.Ac a.C.aV.length a.cc) a.C.aV.length (cellsOf aX a.C.aV)
 av : w.ownsRow lo 26 32 (.slice a.An a.C.av.length a.cn) a.C.av.length (cellsOf ak a.C.av)
 ring : w.ownsRow lo 26 32 (.slice a.Ar a.C.ring.length a.cr) a.C.ring.length (cellsOf ak a.C.ring)
structure wZ (lo : Nat) (w : World) (s : eB) : Prop where
 b : uZ lo w s.b
 c : CZ lo w s.c
 m : s.cp ≤ maxLen
structure nC (lo : Nat) (w : World) (d : CA) : Prop where
 c : CZ lo w d.c
 row : w.ownsRow lo 340 1129 (.slice d.Ap d.past.length d.cp) d.past.length (cellsOf eB.cells d.past)
 each : ∀ s ∈ d.past, wZ lo w s
structure UR (t : TypeId) : Prop where
 p : 142 ≠ t
 o : 144 ≠ t
 k : 26 ≠ t
 x : 92 ≠ t
 c : 317 ≠ t
 s : 340 ≠ t
section
variable {lo lo' g : Nat} {w w' : World} {t : TypeId} {cs : Array Value}
theorem Bq.AJ {a : aY} (h : Bq lo w a) : a.In w w.heap.size := ⟨dm (fT _) h.ins, dm (fU _) h.outs, dm aC h.av, dm aC h.notes⟩
theorem Bq.from {a : aY} (h : Bq lo w a) (b : Below w.heap.size w w') : Bq lo w' a := ⟨aL h.ins b, aL h.outs b, aL h.av b, aL h.notes b⟩
theorem Bq.only {a : aY} (h : Bq lo w a) (o : Only [g] w w') (hg : ax w g t cs) (h1 : 142 ≠ t) (h2 : 144 ≠ t) (h3 : 26 ≠ t) : Bq lo w' a := ⟨aI h.ins o hg h1, aI h.outs o hg h2, aI h.av o hg h3, aI h.notes o hg h3⟩
theorem Bq.mono {a : aY} (h : Bq lo w a) (hl : lo' ≤ lo) : Bq lo' w a := ⟨aW h.ins hl, aW h.outs hl, aW h.av hl, aW h.notes hl⟩
theorem uZ.AJ {b : bF} (h : uZ lo w b) : b.In w w.heap.size := ⟨dm aY.len h.row, fun t ht => (h.each t ht).AJ⟩
theorem uZ.from {b : bF} (h : uZ lo w b) (hb : Below w.heap.size w w') : uZ lo w' b := ⟨aL h.row hb, fun t ht => (h.each t ht).from hb⟩
theorem uZ.only {b : bF} (h : uZ lo w b) (o : Only [g] w w') (hg : ax w g t cs) (h1 : 142 ≠ t) (h2 : 144 ≠ t) (h3 : 26 ≠ t) (h4 : 92 ≠ t) : uZ lo w' b := ⟨aI h.row o hg h4, fun x hx => (h.each x hx).only o hg h1 h2 h3⟩
theorem uZ.mono {b : bF} (h : uZ lo w b) (hl : lo' ≤ lo) : uZ lo' w b := ⟨aW h.row hl, fun t ht => (h.each t ht).mono hl⟩
theorem CZ.AJ {a : eT} (h : CZ lo w a) : a.In w w.heap.size := ⟨dm bR h.aV, dm aC h.av, dm aC h.ring⟩
theorem CZ.from {a : eT} (h : CZ lo w a) (b : Below w.heap.size w w') : CZ lo w' a := ⟨aL h.aV b, aL h.av b, aL h.ring b⟩
theorem CZ.only {a : eT} (h : CZ lo w a) (o : Only [g] w w') (hg : ax w g t cs) (h1 : 317 ≠ t) (h2 : 26 ≠ t) : CZ lo w' a := ⟨aI h.aV o hg h1, aI h.av o hg h2, aI h.ring o hg h2⟩
theorem CZ.mono {a : eT} (h : CZ lo w a) (hl : lo' ≤ lo) : CZ lo' w a := ⟨aW h.aV hl, aW h.av hl, aW h.ring hl⟩
theorem wZ.AJ {s : eB} (h : wZ lo w s) : s.In w w.heap.size := ⟨h.b.AJ, h.c.AJ, h.m⟩
theorem wZ.from {s : eB} (h : wZ lo w s) (b : Below w.heap.size w w') : wZ lo w' s := ⟨h.b.from b, h.c.from b, h.m⟩
theorem wZ.only {s : eB} (h : wZ lo w s) (o : Only [g] w w') (hg : ax w g t cs) (h1 : 142 ≠ t) (h2 : 144 ≠ t) (h3 : 26 ≠ t) (h4 : 92 ≠ t) (h5 : 317 ≠ t) : wZ lo w' s := ⟨h.b.only o hg h1 h2 h3 h4, h.c.only o hg h5 h3, h.m⟩
theorem wZ.mono {s : eB} (h : wZ lo w s) (hl : lo' ≤ lo) : wZ lo' w s := ⟨h.b.mono hl, h.c.mono hl, h.m⟩
theorem nC.AJ {d : CA} (h : nC lo w d) : d.In w w.heap.size := ⟨h.c.AJ, dm eB.len h.row, fun s hs => (h.each s hs).AJ⟩
theorem nC.from {d : CA} (h : nC lo w d) (b : Below w.heap.size w w') : nC lo w' d := ⟨h.c.from b, aL h.row b, fun s hs => (h.each s hs).from b⟩
theorem nC.only {d : CA} (h : nC lo w d) (o : Only [g] w w') (hg : ax w g t cs) (n : UR t) : nC lo w' d := ⟨h.c.only o hg n.c n.k, aI h.row o hg n.s, fun s hs => (h.each s hs).only o hg n.p n.o n.k n.x n.c⟩
theorem nC.mono {d : CA} (h : nC lo w d) (hl : lo' ≤ lo) : nC lo' w d := ⟨h.c.mono hl, aW h.row hl, fun s hs => (h.each s hs).mono hl⟩
theorem mZ : UR 45 := ⟨by decide, by decide, by decide, by decide, by decide, by decide⟩
end
theorem Holds.of {w W : World} {L L' : List (Nat × TypeId × Array Value)} (h : Holds w L W) (hs : ∀ x ∈ L', x ∈ L) : Holds w L' W := ⟨h.below, fun x hx => h.nS x (hs x hx)⟩
theorem Holds.os {w W : World} {L L' : List (Nat × TypeId × Array Value)} (h : Holds w L W) (hs : ∀ x ∈ L', x ∈ L := by (intro x hx; simp only [List.mem_cons, List.not_mem_nil, or_false] at hx ⊢; repeat (first | (rcases hx with rfl | hx; · simp) | (subst hx; simp)))) : Holds w L' W := h.of hs
theorem RJ (A : Option Addr) (c : Nat) (l : List aS) (w : World) (hl : aK ak 32 w w.heap.size A c l) (hn : l.length ≤ 1000000) :
 Calls Tryz.prog 179 #[.agg #[.slice A l.length c]] w fun e w' => ∃ A' c', e = .returned (.agg #[.slice A' l.length c']) ∧ w'.ownsRow w.heap.size 26 32 (.slice A' l.length c') l.length (cellsOf ak l) ∧ Below w.heap.size w w' := by
 have H0 := qh (show Holds w [(w.heap.size + 1, 35, #[.slice none 0 0]), (w.heap.size, 35, #[.slice A l.length c])] ((w.alloc (.cells #[.slice A l.length c] 35)).alloc (.cells #[.slice none 0 0] 35)) by
  have := ((Holds.nil w).box 35 #[.slice A l.length c]).box 35 #[.slice none 0 0]
  simpa only [World.size_alloc, Nat.add_assoc] using this)
 have HC := qh (fun W (hb : Below w.heap.size w W) => nP A c l w.heap.size W hn hb.size (hl.below hb))
 have k0 : ((w.alloc (.cells #[.slice A l.length c] 35)).alloc (.cells #[.slice none 0 0] 35)).cell? ⟨w.heap.size, 0, none⟩ = some (.slice A l.length c) := (H0.out.at (x := (w.heap.size, 35, #[.slice A l.length c])) (by simp)).cell 0
 obtain ⟨n, hn2⟩ : ∃ n, l.length = n := ⟨_, rfl⟩
 have HN := qh hn2
 rw [hn2] at H0 HC k0 ⊢
 clear hl hn hn2
 go_enter Tryz.func179, Tryz.ntmps179
 go_wp2_with fail
 clear k0
 refine (HC.out _ H0.out.below).mono ?_
 rintro e w1 ⟨v, rfl, o1, b1⟩
 obtain ⟨A1, c1, rfl⟩ := ek o1
 have O1 := qh (aW o1 H0.out.below.size)
 have H1 := qh (H0.out.call b1)
 clear o1 b1 H0
 go_wp2_with ((with_reducible refine ag 2 6 ?_); refine rV.aj rfl (.tmp 2) (.tmp 6) rfl rfl (w.heap.size + 1) (A1, n, c1) rfl rfl 35 _ (H1.out.at (x := (w.heap.size + 1, 35, #[.slice none 0 0])) (by simp)) rfl ?_; intro w7 o7 b7)
 refine bodyPost_ret (kK rfl _ _ (w.heap.size + 1) 35 _ _ rfl b7 Zg rfl (by kernel_rfl)) rfl ⟨A1, c1, rfl, ?_, H1.out.below.trans (o7.below (by simp))⟩
 exact aI O1.out o7 (H1.out.at (x := (w.heap.size + 1, 35, #[.slice none 0 0])) (by simp)) (by first | decide | (dsimp only; decide))
theorem oh : ((Tryz.prog.info? 92).bind (·.zero)) = some (.agg aZ.cells.toArray) := by kernel_rfl
theorem uo : aZ.cells.toArray.size = 37 + 1 := di.arr aZ
theorem Vd (a : aY) (w : World) (ha : a.In w w.heap.size) (hn : iy a.T) :
 Calls Tryz.prog 252 #[.agg a.cells.toArray] w fun e w' => ∃ y : aY, y.T = a.T ∧ e = .returned (.agg y.cells.toArray) ∧ Bq w.heap.size w' y ∧ Below w.heap.size w w' := by
 obtain ⟨Z, hZ, hz, hzs, hzn⟩ := bB oh uo
 have HS := qh hzs
 have IN := qh ha
 have HN := qh hn
 have H0 := qh (show Holds w [(w.heap.size, 92, a.cells.toArray), (w.heap.size + 1, 92, Z)] ((w.alloc (.cells a.cells.toArray 92)).alloc (.cells Z 92)) by
  have := ((Holds.nil w).box 92 a.cells.toArray).box 92 Z
  simp only [World.size_alloc] at this
  exact this.of (by simp [or_comm]))
 have k1 : ((w.alloc (.cells a.cells.toArray 92)).alloc (.cells Z 92)).cell? ⟨w.heap.size, 1, none⟩ = some (.slice a.Ai a.T.ins.length a.ci) := aY.c1 (au.ah (H0.out.at (x := (w.heap.size, 92, a.cells.toArray)) (by simp)))
 clear ha hn hZ hzs
 go_enter Tryz.func252, Tryz.ntmps252
 go_wp2_with fail
 clear k1
 refine (Gt a.Ai a.ci a.T.ins w.heap.size _ (by have := HN.out; have := this.i; omega) H0.out.below.size ((IN.out.ins).below H0.out.below)).mono ?_
 rintro e w1 ⟨v, rfl, ow, bw⟩
 obtain ⟨A0, c0, rfl⟩ := ek ow
 have O0 := qh (aW ow H0.out.below.size)
 have H1 := qh (H0.out.call bw)
 clear ow bw H0
 go_wp2_with ((with_reducible refine ag 6 5 ?_); refine aJ rfl 89 (.tmp 6) (.tmp 5) rfl rfl w.heap.size 1 (.slice A0 a.T.ins.length c0) rfl rfl rfl 92 _ (H1.out.at (x := (w.heap.size, 92, a.cells.toArray)) (by simp)) (by rw [di.arr]; omega) (by kernel_rfl) ?_; intro w2 ox bx; have hbk := H1.out.at (x := (w.heap.size, 92, a.cells.toArray)) (by simp); have sQ : ax w2 w.heap.size 92 ({ a with Ai := A0, ci := c0 } : aY).cells.toArray := (by have e := aY.DL a a.T.ins A0 c0; rw [e] at bx; exact bx); have H2 := qh (H1.out.turn ox sQ (Nat.le_refl _) (by simp)); have Q0 := qh (aI O0.out ox hbk (by first | decide | (dsimp only; decide))); clear O0; have O0 := Q0; clear Q0; have k2 : w2.cell? ⟨w.heap.size, 2, none⟩ = some (.slice a.Ao a.T.outs.length a.co) := aY.c2 (a := ({ a with Ai := A0, ci := c0 } : aY)) (au.ah sQ); clear ox bx hbk sQ H1)
 clear k2
 refine (Gx a.Ao a.co a.T.outs w.heap.size _ (by have := HN.out; have := this.o; omega) H2.out.below.size ((IN.out.outs).below H2.out.below)).mono ?_
 rintro e w3 ⟨v, rfl, ow, bw⟩
 obtain ⟨A1, c1, rfl⟩ := ek ow
 have O1 := qh (aW ow H2.out.below.size)
 have H3 := qh (H2.out.call bw)
 have Q0 := qh (aL O0.out bw)
 clear O0
 have O0 := Q0
 clear Q0
 clear ow bw H2
 go_wp2_with ((with_reducible refine ag 10 9 ?_); refine aJ rfl 90 (.tmp 10) (.tmp 9) rfl rfl w.heap.size 2 (.slice A1 a.T.outs.length c1) rfl rfl rfl 92 _ (H3.out.at (x := (w.heap.size, 92, ({ a with Ai := A0, ci := c0 } : aY).cells.toArray)) (by simp)) (by rw [di.arr]; omega) (by kernel_rfl) ?_; intro w4 ox bx; have hbk := H3.out.at (x := (w.heap.size, 92, ({ a with Ai := A0, ci := c0 } : aY).cells.toArray)) (by simp); have sQ : ax w4 w.heap.size 92 ({ a with Ai := A0, ci := c0, Ao := A1, co := c1 } : aY).cells.toArray := (by have e := aY.DK ({ a with Ai := A0, ci := c0 } : aY) a.T.outs A1 c1; rw [e] at bx; exact bx); have H4 := qh (H3.out.turn ox sQ (Nat.le_refl _) (by simp)); have Q0 := qh (aI O0.out ox hbk (by first | decide | (dsimp only; decide))); clear O0; have O0 := Q0; clear Q0; have Q1 := qh (aI O1.out ox hbk (by first | decide | (dsimp only; decide))); clear O1; have O1 := Q1; clear Q1; have k3 : w4.cell? ⟨w.heap.size, 35, none⟩ = some (.slice a.An a.T.av.length a.cn) := aY.c4 (a := ({ a with Ai := A0, ci := c0, Ao := A1, co := c1 } : aY)) (au.ah sQ); clear ox bx hbk sQ H3)
 clear k3
 refine (nP a.An a.cn a.T.av w.heap.size _ (by have := HN.out; have := this.n; omega) H4.out.below.size ((IN.out.av).below H4.out.below)).mono ?_
 rintro e w5 ⟨v, rfl, ow, bw⟩
 obtain ⟨A2, c2, rfl⟩ := ek ow
 have O2 := qh (aW ow H4.out.below.size)
 have H5 := qh (H4.out.call bw)
 have Q0 := qh (aL O0.out bw)
 clear O0
 have O0 := Q0
 clear Q0
 have Q1 := qh (aL O1.out bw)
 clear O1
 have O1 := Q1
 clear Q1
 clear ow bw H4
 go_wp2_with ((with_reducible refine ag 14 13 ?_); refine aJ rfl 22 (.tmp 14) (.tmp 13) rfl rfl w.heap.size 35 (.slice A2 a.T.av.length c2) rfl rfl rfl 92 _ (H5.out.at (x := (w.heap.size, 92, ({ a with Ai := A0, ci := c0, Ao := A1, co := c1 } : aY).cells.toArray)) (by simp)) (by rw [di.arr]; omega) (by kernel_rfl) ?_; intro w6 ox bx; have hbk := H5.out.at (x := (w.heap.size, 92, ({ a with Ai := A0, ci := c0, Ao := A1, co := c1 } : aY).cells.toArray)) (by simp); have sQ : ax w6 w.heap.size 92 ({ a with Ai := A0, ci := c0, Ao := A1, co := c1, An := A2, cn := c2 } : aY).cells.toArray := (by have e := aY.vD ({ a with Ai := A0, ci := c0, Ao := A1, co := c1 } : aY) a.T.av A2 c2; rw [e] at bx; exact bx); have H6 := qh (H5.out.turn ox sQ (Nat.le_refl _) (by simp)); have Q0 := qh (aI O0.out ox hbk (by first | decide | (dsimp only; decide))); clear O0; have O0 := Q0; clear Q0; have Q1 := qh (aI O1.out ox hbk (by first | decide | (dsimp only; decide))); clear O1; have O1 := Q1; clear Q1; have Q2 := qh (aI O2.out ox hbk (by first | decide | (dsimp only; decide))); clear O2; have O2 := Q2; clear Q2; have k4 : w6.cell? ⟨w.heap.size, 36, none⟩ = some (.slice a.At a.T.notes.length a.ct) := aY.c5 (a := ({ a with Ai := A0, ci := c0, Ao := A1, co := c1, An := A2, cn := c2 } : aY)) (au.ah sQ); clear ox bx hbk sQ H5)
 clear k4
 refine (nP a.At a.ct a.T.notes w.heap.size _ (by have := HN.out; have := this.t; omega) H6.out.below.size ((IN.out.notes).below H6.out.below)).mono ?_
 rintro e w7 ⟨v, rfl, ow, bw⟩
 obtain ⟨A3, c3, rfl⟩ := ek ow
 have O3 := qh (aW ow H6.out.below.size)
 have H7 := qh (H6.out.call bw)
 have Q0 := qh (aL O0.out bw)
 clear O0
 have O0 := Q0
 clear Q0
 have Q1 := qh (aL O1.out bw)
 clear O1
 have O1 := Q1
 clear Q1
 have Q2 := qh (aL O2.out bw)
 clear O2
 have O2 := Q2
 clear Q2
 clear ow bw H6
 go_wp2_with (first
  | ((with_reducible refine ag 18 17 ?_); refine aJ rfl 22 (.tmp 18) (.tmp 17) rfl rfl w.heap.size 36 (.slice A3 a.T.notes.length c3) rfl rfl rfl 92 _ (H7.out.at (x := (w.heap.size, 92, ({ a with Ai := A0, ci := c0, Ao := A1, co := c1, An := A2, cn := c2 } : aY).cells.toArray)) (by simp)) (by rw [di.arr]; omega) (by kernel_rfl) ?_; intro w8 ox bx; have hbk := H7.out.at (x := (w.heap.size, 92, ({ a with Ai := A0, ci := c0, Ao := A1, co := c1, An := A2, cn := c2 } : aY).cells.toArray)) (by simp); have sQ : ax w8 w.heap.size 92 ({ a with Ai := A0, ci := c0, Ao := A1, co := c1, An := A2, cn := c2, At := A3, ct := c3 } : aY).cells.toArray := (by have e := aY.vE ({ a with Ai := A0, ci := c0, Ao := A1, co := c1, An := A2, cn := c2 } : aY) a.T.notes A3 c3; rw [e] at bx; exact bx); have H8 := qh (H7.out.turn ox sQ (Nat.le_refl _) (by simp)); have Q0 := qh (aI O0.out ox hbk (by first | decide | (dsimp only; decide))); clear O0; have O0 := Q0; clear Q0; have Q1 := qh (aI O1.out ox hbk (by first | decide | (dsimp only; decide))); clear O1; have O1 := Q1; clear Q1; have Q2 := qh (aI O2.out ox hbk (by first | decide | (dsimp only; decide))); clear O2; have O2 := Q2; clear Q2; have Q3 := qh (aI O3.out ox hbk (by first | decide | (dsimp only; decide))); clear O3; have O3 := Q3; clear Q3; clear ox bx hbk sQ H7)
  | ((with_reducible refine az 1 ?_); refine di.af rfl (.tmp 1) rfl w.heap.size 0 rfl ({ a with Ai := A0, ci := c0, Ao := A1, co := c1, An := A2, cn := c2, At := A3, ct := c3 } : aY) (au.ah (H8.out.at (x := (w.heap.size, 92, ({ a with Ai := A0, ci := c0, Ao := A1, co := c1, An := A2, cn := c2, At := A3, ct := c3 } : aY).cells.toArray)) (by simp))) ?_)
  | ((with_reducible refine ag 2 19 ?_); refine di.aj rfl (.tmp 2) (.tmp 19) rfl rfl (w.heap.size + 1) ({ a with Ai := A0, ci := c0, Ao := A1, co := c1, An := A2, cn := c2, At := A3, ct := c3 } : aY) rfl rfl 92 _ (H8.out.at (x := (w.heap.size + 1, 92, Z)) (by simp)) (by rw [HS.out]) ?_; intro w9 o9 b9))
 refine bodyPost_ret (aU rfl _ _ (w.heap.size + 1) 92 _ (0, 0) _ rfl b9 Tryz.underlying92 rfl (by rw [di.arr]; kernel_rfl)) rfl ?_
 have UF := H8.out.at (x := (w.heap.size + 1, 92, Z)) (by simp)
 exact ⟨({ a with Ai := A0, ci := c0, Ao := A1, co := c1, An := A2, cn := c2, At := A3, ct := c3 } : aY), rfl, rfl, ⟨aI O0.out o9 UF (by first | decide | (dsimp only; decide)), aI O1.out o9 UF (by first | decide | (dsimp only; decide)), aI O2.out o9 UF (by first | decide | (dsimp only; decide)), aI O3.out o9 UF (by first | decide | (dsimp only; decide))⟩, H8.out.below.trans (o9.below (by simp))⟩
theorem dZ : ((Tryz.prog.info? 45).bind (·.zero)) = some (.agg yE.cells.toArray) := by kernel_rfl
theorem CF (a : eT) (Ap : Option Addr) (n cp : Nat) (A : Option Addr) (c : Nat) : (a.cells Ap n cp).toArray.setIfInBounds 33 (.slice A a.C.aV.length c) = (({ a with Ac := A, cc := c } : eT).cells Ap n cp).toArray := by
 have h := aC a.C.gB
 simp [eT.cells, h]
theorem CB (a : eT) (Ap : Option Addr) (n cp : Nat) (A : Option Addr) (c : Nat) : (a.cells Ap n cp).toArray.setIfInBounds 34 (.slice A a.C.av.length c) = (({ a with An := A, cn := c } : eT).cells Ap n cp).toArray := by
 have h := aC a.C.gB
 simp [eT.cells, h]
theorem Fv (a : eT) (Ap : Option Addr) (n cp : Nat) (A : Option Addr) (c : Nat) : ((a.cells Ap n cp).take 1060 ++ [Value.slice A a.C.ring.length c] ++ (a.cells Ap n cp).drop (1060 + 1)) = ({ a with Ar := A, cr := c } : eT).cells Ap n cp := by
 have h : a.cells Ap n cp = (.int .u32 a.C.h.1 :: (ak a.C.gB ++ (.slice a.Ac a.C.aV.length a.cc :: .slice a.An a.C.av.length a.cn :: a.C.tree.cells))) ++ ([.slice a.Ar a.C.ring.length a.cr] ++ [.int .i64 a.C.pool, .slice Ap n cp]) := by
  unfold eT.cells
  simp only [List.cons_append, List.append_assoc, List.nil_append]
 have h' : ({ a with Ar := A, cr := c } : eT).cells Ap n cp = (.int .u32 a.C.h.1 :: (ak a.C.gB ++ (.slice a.Ac a.C.aV.length a.cc :: .slice a.An a.C.av.length a.cn :: a.C.tree.cells))) ++ ([.slice A a.C.ring.length c] ++ [.int .i64 a.C.pool, .slice Ap n cp]) := by
  unfold eT.cells
  simp only [List.cons_append, List.append_assoc, List.nil_append]
 have hl : (Value.int .u32 a.C.h.1 :: (ak a.C.gB ++ (Value.slice a.Ac a.C.aV.length a.cc :: Value.slice a.An a.C.av.length a.cn :: a.C.tree.cells))).length = 1060 := by
  rw [List.length_cons, List.length_append, aC, List.length_cons, List.length_cons, a.C.tree.len]
 rw [h, h', List.take_left' hl, ← List.append_assoc, ← List.append_assoc, List.drop_left' (by rw [List.length_append, hl]; rfl)]
structure kE (C : C0) : Prop where
 c : C.aV.length ≤ 900
 n : C.av.length ≤ 900
 r : C.ring.length ≤ 900
theorem yh (d : CA) (w : World) (hd : d.c.In w w.heap.size) (hn : kE d.c.C) :
 Calls Tryz.prog 145 #[.agg d.cells.toArray] w fun e w' => ∃ y : eT, y.C = d.c.C ∧ e = .returned (.agg (Ib y).cells.toArray) ∧ CZ w.heap.size w' y ∧ Below w.heap.size w w' := by
 obtain ⟨Z, hZ, hz, hzs, hzn⟩ := bB dZ fQ
 have HS := qh hzs
 have IN := qh hd
 have HN := qh hn
 have H0 := qh (show Holds w [(w.heap.size, 45, (d.c.cells d.Ap d.past.length d.cp).toArray), (w.heap.size + 1, 45, Z)] ((w.alloc (.cells d.cells.toArray 45)).alloc (.cells Z 45)) by
  have := ((Holds.nil w).box 45 d.cells.toArray).box 45 Z
  simp only [World.size_alloc] at this
  exact this.of (by simp [or_comm, CA.cells]))
 have k2 : ((w.alloc (.cells d.cells.toArray 45)).alloc (.cells Z 45)).cell? ⟨w.heap.size, 33, none⟩ = some (.slice d.c.Ac d.c.C.aV.length d.c.cc) := by have := eT.c2 (au.ah (H0.out.at (x := (w.heap.size, 45, (d.c.cells d.Ap d.past.length d.cp).toArray)) (by simp))); rwa [Nat.zero_add] at this
 clear hd hn hZ hzs
 go_enter Tryz.func145, Tryz.ntmps145
 go_wp2_with fail
 clear k2
 refine (zh d.c.Ac d.c.cc d.c.C.aV w.heap.size _ (by have := HN.out.c; omega) H0.out.below.size ((IN.out.aV).below H0.out.below)).mono ?_
 rintro e w1 ⟨v, rfl, ow, bw⟩
 obtain ⟨A0, c0, rfl⟩ := ek ow
 have O0 := qh (aW ow H0.out.below.size)
 have H1 := qh (H0.out.call bw)
 clear ow bw H0
 go_wp2_with ((with_reducible refine ag 6 5 ?_); refine aJ rfl 42 (.tmp 6) (.tmp 5) rfl rfl w.heap.size 33 (.slice A0 d.c.C.aV.length c0) rfl rfl rfl 45 _ (H1.out.at (x := (w.heap.size, 45, (d.c.cells d.Ap d.past.length d.cp).toArray)) (by simp)) (by rw [List.size_toArray, eT.len]; omega) (by kernel_rfl) ?_; intro w2 ox bx; have hbk := H1.out.at (x := (w.heap.size, 45, (d.c.cells d.Ap d.past.length d.cp).toArray)) (by simp); have sQ : ax w2 w.heap.size 45 ((⟨d.c.C, A0, c0, d.c.An, d.c.cn, d.c.Ar, d.c.cr⟩ : eT).cells d.Ap d.past.length d.cp).toArray := IX (CF d.c d.Ap d.past.length d.cp A0 c0) bx; have H2 := qh (H1.out.turn ox sQ (Nat.le_refl _) (by simp)); have Q0 := qh (aI O0.out ox hbk (by first | decide | (dsimp only; decide))); clear O0; have O0 := Q0; clear Q0; have k3 : w2.cell? ⟨w.heap.size, 34, none⟩ = some (.slice d.c.An d.c.C.av.length d.c.cn) := (by have := eT.c3 (a := (⟨d.c.C, A0, c0, d.c.An, d.c.cn, d.c.Ar, d.c.cr⟩ : eT)) (au.ah sQ); rwa [Nat.zero_add] at this); clear ox bx hbk sQ H1)
 clear k3
 refine (nP d.c.An d.c.cn d.c.C.av w.heap.size _ (by have := HN.out.n; omega) H2.out.below.size ((IN.out.av).below H2.out.below)).mono ?_
 rintro e w3 ⟨v, rfl, ow, bw⟩
 obtain ⟨A1, c1, rfl⟩ := ek ow
 have O1 := qh (aW ow H2.out.below.size)
 have H3 := qh (H2.out.call bw)
 have Q0 := qh (aL O0.out bw)
 clear O0
 have O0 := Q0
 clear Q0
 clear ow bw H2
 go_wp2_with (first
  | ((with_reducible refine ag 10 9 ?_); refine aJ rfl 22 (.tmp 10) (.tmp 9) rfl rfl w.heap.size 34 (.slice A1 d.c.C.av.length c1) rfl rfl rfl 45 _ (H3.out.at (x := (w.heap.size, 45, ((⟨d.c.C, A0, c0, d.c.An, d.c.cn, d.c.Ar, d.c.cr⟩ : eT).cells d.Ap d.past.length d.cp).toArray)) (by simp)) (by rw [List.size_toArray, eT.len]; omega) (by kernel_rfl) ?_; intro w4 ox bx; have hbk := H3.out.at (x := (w.heap.size, 45, ((⟨d.c.C, A0, c0, d.c.An, d.c.cn, d.c.Ar, d.c.cr⟩ : eT).cells d.Ap d.past.length d.cp).toArray)) (by simp); have sQ : ax w4 w.heap.size 45 ((⟨d.c.C, A0, c0, A1, c1, d.c.Ar, d.c.cr⟩ : eT).cells d.Ap d.past.length d.cp).toArray := IX (CB (⟨d.c.C, A0, c0, d.c.An, d.c.cn, d.c.Ar, d.c.cr⟩ : eT) d.Ap d.past.length d.cp A1 c1) bx; have H4 := qh (H3.out.turn ox sQ (Nat.le_refl _) (by simp)); have Q0 := qh (aI O0.out ox hbk (by first | decide | (dsimp only; decide))); clear O0; have O0 := Q0; clear Q0; have Q1 := qh (aI O1.out ox hbk (by first | decide | (dsimp only; decide))); clear O1; have O1 := Q1; clear Q1; have k5 : w4.cell? ⟨w.heap.size, 1060, none⟩ = some (.slice d.c.Ar d.c.C.ring.length d.c.cr) := (by have := eT.c5 (a := (⟨d.c.C, A0, c0, A1, c1, d.c.Ar, d.c.cr⟩ : eT)) (au.ah sQ); rwa [Nat.zero_add] at this); clear ox bx hbk sQ H3)
  | ((with_reducible refine az 11 ?_); refine rV.af rfl (.tmp 11) rfl w.heap.size 1060 rfl (d.c.Ar, d.c.C.ring.length, d.c.cr) (uh k5) ?_))
 clear k5
 refine (RJ d.c.Ar d.c.cr d.c.C.ring _ (((IN.out.ring).below H4.out.below).more H4.out.below.size) (by have := HN.out.r; omega)).mono ?_
 rintro e w5 ⟨A2, c2, rfl, ow, bw⟩
 have O2 := qh (aW ow H4.out.below.size)
 have H5 := qh (H4.out.call bw)
 have Q0 := qh (aL O0.out bw)
 clear O0
 have O0 := Q0
 clear Q0
 have Q1 := qh (aL O1.out bw)
 clear O1
 have O1 := Q1
 clear Q1
 clear ow bw H4
 go_wp2_with (first
  | ((with_reducible refine ag 14 13 ?_); refine rV.dO rfl (.tmp 14) (.tmp 13) rfl rfl w.heap.size 1060 (A2, d.c.C.ring.length, c2) rfl rfl 45 _ (H5.out.at (x := (w.heap.size, 45, ((⟨d.c.C, A0, c0, A1, c1, d.c.Ar, d.c.cr⟩ : eT).cells d.Ap d.past.length d.cp).toArray)) (by simp)) (by rw [eT.len]; omega) ?_; intro w6 ox bx; have hbk := H5.out.at (x := (w.heap.size, 45, ((⟨d.c.C, A0, c0, A1, c1, d.c.Ar, d.c.cr⟩ : eT).cells d.Ap d.past.length d.cp).toArray)) (by simp); have sQ : ax w6 w.heap.size 45 ((⟨d.c.C, A0, c0, A1, c1, A2, c2⟩ : eT).cells d.Ap d.past.length d.cp).toArray := IX (congrArg List.toArray (Fv (⟨d.c.C, A0, c0, A1, c1, d.c.Ar, d.c.cr⟩ : eT) d.Ap d.past.length d.cp A2 c2)) bx; have H6 := qh (H5.out.turn ox sQ (Nat.le_refl _) (by simp)); have Q0 := qh (aI O0.out ox hbk (by first | decide | (dsimp only; decide))); clear O0; have O0 := Q0; clear Q0; have Q1 := qh (aI O1.out ox hbk (by first | decide | (dsimp only; decide))); clear O1; have O1 := Q1; clear Q1; have Q2 := qh (aI O2.out ox hbk (by first | decide | (dsimp only; decide))); clear O2; have O2 := Q2; clear Q2; clear ox bx hbk sQ H5)
  | ((with_reducible refine az 1 ?_); refine cO.af rfl (.tmp 1) rfl w.heap.size 0 rfl (Ib (⟨d.c.C, A0, c0, A1, c1, A2, c2⟩ : eT)) (au.ah (H7.out.at (x := (w.heap.size, 45, (Ib (⟨d.c.C, A0, c0, A1, c1, A2, c2⟩ : eT)).cells.toArray)) (by simp))) ?_)
  | ((with_reducible refine ag 2 16 ?_); refine cO.aj rfl (.tmp 2) (.tmp 16) rfl rfl (w.heap.size + 1) (Ib (⟨d.c.C, A0, c0, A1, c1, A2, c2⟩ : eT)) rfl rfl 45 _ (H7.out.at (x := (w.heap.size + 1, 45, Z)) (by simp)) (by rw [HS.out]) ?_; intro w9 o9 b9)
  | ((with_reducible refine LF 15 ?_); refine aJ rfl 43 (.tmp 15) (.const (.slice none 0 0)) rfl rfl w.heap.size 1062 (.slice none 0 0) rfl rfl rfl 45 _ (H6.out.at (x := (w.heap.size, 45, ((⟨d.c.C, A0, c0, A1, c1, A2, c2⟩ : eT).cells d.Ap d.past.length d.cp).toArray)) (by simp)) (by rw [List.size_toArray, eT.len]; omega) (by kernel_rfl) ?_; intro w7 ox bx; have hbk := H6.out.at (x := (w.heap.size, 45, ((⟨d.c.C, A0, c0, A1, c1, A2, c2⟩ : eT).cells d.Ap d.past.length d.cp).toArray)) (by simp); have sQ : ax w7 w.heap.size 45 (Ib (⟨d.c.C, A0, c0, A1, c1, A2, c2⟩ : eT)).cells.toArray := IX (wH (⟨d.c.C, A0, c0, A1, c1, A2, c2⟩ : eT) d.Ap none d.past.length 0 d.cp 0) bx; have H7 := qh (H6.out.turn ox sQ (Nat.le_refl _) (by simp)); have Q0 := qh (aI O0.out ox hbk (by first | decide | (dsimp only; decide))); have Q1 := qh (aI O1.out ox hbk (by first | decide | (dsimp only; decide))); have Q2 := qh (aI O2.out ox hbk (by first | decide | (dsimp only; decide))); clear ox bx hbk sQ H6))
 refine bodyPost_ret (aU rfl _ _ (w.heap.size + 1) 45 _ (0, 0) _ rfl b9 Tryz.underlying45 rfl (by rw [cO.arr]; kernel_rfl)) rfl ?_
 have UF := H7.out.at (x := (w.heap.size + 1, 45, Z)) (by simp)
 exact ⟨(⟨d.c.C, A0, c0, A1, c1, A2, c2⟩ : eT), rfl, rfl, ⟨aI Q0.out o9 UF (by first | decide | (dsimp only; decide)), aI Q1.out o9 UF (by first | decide | (dsimp only; decide)), aI Q2.out o9 UF (by first | decide | (dsimp only; decide))⟩, H7.out.below.trans (o9.below (by simp))⟩
end
section
open Go.RowKit
def aA (z : aQ .u64) : List Value := [.slice none 0 0, .slice none 0 0, .int .u64 z.1]
theorem vG (z : aQ .u64) : (aA z).length = 3 := rfl
theorem Au (z : aQ .u64) : ∀ v ∈ aA z, v.oneCell' = true := by
 intro v hv
 simp only [aA, List.mem_cons, List.not_mem_nil, or_false] at hv
 rcases hv with rfl | rfl | rfl <;> rfl
structure dJ where
 d : CA
 z : aQ .u64
def dJ.cells (n : dJ) : List Value := n.d.cells ++ aA n.z
theorem dJ.len (n : dJ) : n.cells.length = 1066 := by unfold dJ.cells; rw [List.length_append, n.d.len, vG]
theorem dJ.one (n : dJ) : ∀ v ∈ n.cells, v.oneCell' = true := by
 intro v hv
 rcases List.mem_append.1 hv with h | h
 ·exact n.d.one v h
 ·exact Au _ v h
theorem j5 : cZ Tryz.prog 50 aA 3 := ⟨by kernel_rfl, vG, Au, Tryz.isAgg50⟩
theorem lF : cZ Tryz.prog 52 dJ.cells 1066 := ⟨by kernel_rfl, dJ.len, dJ.one, Tryz.isAgg52⟩
theorem BJ : cZ Tryz.prog 112 dJ.cells 1066 := ⟨by kernel_rfl, dJ.len, dJ.one, Tryz.isAgg112⟩
section
variable {w : World} {g : Nat} {n : dJ}
theorem dJ.chain (h : au w g 0 n.cells) : au w g 0 n.d.cells := au.left h
theorem dJ.pool (h : au w g 0 n.cells) : au w g 1063 (aA n.z) := by
 have := au.right h
 rwa [n.d.len, Nat.zero_add] at this
theorem dJ.l0 (h : au w g 0 n.cells) : w.cell? ⟨g, 1063, none⟩ = some (.slice none 0 0) := (dJ.pool h).head
theorem dJ.l1 (h : au w g 0 n.cells) : w.cell? ⟨g, 1064, none⟩ = some (.slice none 0 0) := (dJ.pool h).tail.head
end
theorem NJ (n : dJ) (t : TypeId) (ht : t = 52) : Tryz.prog.built t [(0, .agg n.d.cells.toArray), (1, .agg (aA n.z).toArray)] = some n.cells.toArray := by
 subst ht
 refine (lC (n := 1066) (places := [(0, 1063), (1063, 3)]) (by kernel_rfl) Tryz.underlying52 (by kernel_rfl) ?_ ?_).trans ?_
 rotate_left 2
 ·simp [Value.cells, dJ.cells]
 refine ⟨?_, ?_, trivial⟩
 ·show some (0, 1063) = some (0, n.d.cells.toArray.size)
  rw [cO.arr]
 ·show some (1063, 3) = some (0 + n.d.cells.toArray.size, 3)
  rw [cO.arr]
 ·show 1066 = n.d.cells.toArray.size + (3 + 0)
  rw [cO.arr]
theorem Qm (n : dJ) (t : TypeId) (ht : t = 112) : Tryz.prog.built t [(0, .agg n.d.cells.toArray), (1, .agg (aA n.z).toArray)] = some n.cells.toArray := by
 subst ht
 refine (lC (n := 1066) (places := [(0, 1063), (1063, 3)]) (by kernel_rfl) Tryz.underlying112 (by kernel_rfl) ?_ ?_).trans ?_
 rotate_left 2
 ·simp [Value.cells, dJ.cells]
 refine ⟨?_, ?_, trivial⟩
 ·show some (0, 1063) = some (0, n.d.cells.toArray.size)
  rw [cO.arr]
 ·show some (1063, 3) = some (0 + n.d.cells.toArray.size, 3)
  rw [cO.arr]
 ·show 1066 = n.d.cells.toArray.size + (3 + 0)
  rw [cO.arr]
end
section
open Go.RowKit
theorem Holds.b {w W : World} {L : List (Nat × TypeId × Array Value)} (h : Holds w L W) (g : Nat) (t : TypeId) (cs : Array Value) (hx : (g, t, cs) ∈ L) : ax W g t cs := h.nS _ hx
theorem gq {α : Type} {enc : α → List Value} {k : Nat} (hk : ∀ x, (enc x).length = k) {w : World} {base g n : Nat} {e : TypeId} {l : List α} (hb : ax w g e (cellsOf enc l).toArray) (hg : base ≤ g) (hn : l.length = n) (hm : n ≤ maxLen) : w.ownsRow base e k (.slice (some ⟨g, 0, none⟩) n n) n (cellsOf enc l) :=
 ⟨by rw [aT hk, hn], .inr ⟨g, n, _, rfl, hg, hb, Nat.le_refl _, hm, by simp [aT hk, hn], by rw [List.take_of_length_le]; simp [aT hk, hn]⟩⟩
theorem xU {α : Type} (ys : List α) (z y : α) (n j : Nat) (h : ys.length = j) (hj : j < n) : (ys ++ List.replicate (n - j) z).set j y = (ys ++ [y]) ++ List.replicate (n - (j + 1)) z := by
 obtain ⟨m, rfl⟩ : ∃ m, n = j + 1 + m := ⟨n - (j + 1), by omega⟩
 rw [show j + 1 + m - j = m + 1 by omega, show j + 1 + m - (j + 1) = m by omega, List.set_append_right _ _ (by omega), h, Nat.sub_self, List.replicate_succ, List.set_cons_zero, List.append_assoc]
 rfl
theorem yJ {α β : Type} (f : α → β) (ys l : List α) (j : Nat) (x y : α) (hx : l[j]? = some x) (h : ys.map f = (l.take j).map f) (hy : f y = f x) : (ys ++ [y]).map f = (l.take (j + 1)).map f := by
 obtain ⟨hj, rfl⟩ := List.getElem?_eq_some_iff.1 hx
 rw [List.take_succ_eq_append_getElem hj, List.map_append, List.map_append, h, List.map_cons, List.map_cons, hy]
theorem Ut : ∃ zv : Value, (Tryz.prog.info? 92).map (fun i => (i.zero, i.bytes)) = some (some zv, 144) ∧ zv.cells = aZ.cells.toArray := ⟨.agg aZ.cells.toArray, by kernel_rfl, rfl⟩
theorem M9 (A : Option Addr) (c : Nat) (l : List aY) (w : World) (hl : aK aY.cells 38 w w.heap.size A c l) (he : ∀ x ∈ l, x.In w w.heap.size) (hp : ∀ x ∈ l, iy x.T) (hn : l.length ≤ 900) :
 Calls Tryz.prog 251 #[.slice A l.length c, .func (.func 252) #[] #[]] w fun e w' => ∃ A' c' ys, ys.map aY.T = l.map aY.T ∧ e = .returned (.slice A' ys.length c') ∧ w'.ownsRow w.heap.size 92 38 (.slice A' ys.length c') ys.length (cellsOf aY.cells ys) ∧ (∀ y ∈ ys, Bq w.heap.size w' y) ∧ Below w.heap.size w w' := by
 have HL := qh hl
 have HE := qh he
 have HP := qh hp
 have HN := qh hn
 have ef : ∀ args w, (callFunc 252 args).run Tryz.prog w = .ok (.enter 252 args) w := enters_of Tryz.func252 (by kernel_rfl) rfl
 obtain ⟨zv, hz1, hz2⟩ := Ut
 have hmk : ∀ W, (Instr.makeSlice 68 (.int .i64 (l.length : Int)) (.int .i64 (l.length : Int))).run Tryz.prog W = .ok (.slice (some ⟨W.heap.size, 0, none⟩) l.length l.length) (W.alloc (.cells (cellsOf aY.cells (List.replicate l.length aZ)).toArray 92)) := fun W => mD.made W aZ zv 144 hz1 hz2 (by omega) .i64 .i64 l.length (by omega)
 obtain ⟨Z, hZ, hz, hzs, hzn⟩ := bB oh uo
 have HS := qh hzs
 have H1 := qh (show Holds w [(w.heap.size, 92, (cellsOf aY.cells (([] : List aY) ++ List.replicate (l.length - 0) aZ)).toArray)] (w.alloc (.cells (cellsOf aY.cells (List.replicate l.length aZ)).toArray 92)) from (Holds.nil w).box 92 _)
 clear hz1 hz2 hl he hp hn hZ hzs
 go_enter Tryz.func251, Tryz.ntmps251
 go_wp2_with fail
 clear hmk
 go_loopw [13] (fun si wr => ∃ (j : Nat) (ys : List aY), si = .int .i64 j ∧ j ≤ l.length ∧ Hid (ys.length = j ∧ ys.map aY.T = (l.take j).map aY.T ∧ ∀ y ∈ ys, Bq w.heap.size wr y) ∧ Hid (Holds w [(w.heap.size, 92, (cellsOf aY.cells (ys ++ List.replicate (l.length - j) aZ)).toArray)] wr)) (fun si _ => l.length - (intOf si).toNat)
 case atStart => exact ⟨0, [], rfl, Nat.zero_le _, qh ⟨rfl, rfl, fun _ h => absurd h List.not_mem_nil⟩, H1⟩
 case round =>
  clear H1
  obtain ⟨j, ys, rfl, hj, HY, HB⟩ := hrel
  by_cases hlt : j < l.length
  ·have hd : decide ((j : Int) < (l.length : Int)) = true := by simp; omega
   have hi0 : (0 : Int) ≤ (j : Int) := by omega
   have hi1 : (j : Int) < (l.length : Int) := by omega
   obtain ⟨g, o, hA, hg, hc⟩ := (HL.out.below HB.out.below).at aY.len hlt
   obtain ⟨x, hx⟩ : ∃ x, l[j]'hlt = x := ⟨_, rfl⟩
   have HX := qh (show l[j]? = some x by rw [List.getElem?_eq_getElem hlt, hx])
   have HM := qh (show x ∈ l from hx ▸ List.getElem_mem hlt)
   rw [hx] at hc
   subst hA
   have HC := qh hc
   have HJ := qh hlt
   have hln : l.length ≤ 900 := HN.out
   have HF := qh (fun (W : World) (h : x.In W W.heap.size) => Vd x W h (HP.out x HM.out))
   clear hx hc hg hlt
   go_wp2_with (first
    | ((with_reducible refine az 16 ?_); refine di.af rfl (.tmp 16) rfl g (o + j * 38) rfl x HC.out ?_)
    | ((with_reducible refine ag 7 17 ?_); refine di.aj rfl (.tmp 7) (.tmp 17) rfl rfl wr.heap.size x rfl rfl 92 _ (ax.new _ _ _) (by rw [HS.out]) ?_; intro w3 o3 b3; have B3 := ((Below.refl wr.heap.size wr).alloc (Nat.le_refl _) (.cells Z 92)).trans (o3.below (by simp)); have H3 := qh (HB.out.put o3 b3); have Y3 := qh (fun y hy => (HY.out.2.2 y hy).from B3); have X3 := qh (show x.In w3 w3.heap.size from (((HE.out x HM.out).below H3.out.below).more H3.out.below.size)); clear o3 b3 B3 HC)
    | ((with_reducible refine az 7 ?_); refine di.af rfl (.tmp 7) rfl wr.heap.size 0 rfl x (au.ah (H3.out.b (wr.heap.size) (92) ((aY.cells x).toArray) (by simp))) ?_)
    | (go_at_fn 252; refine (HF.out _ X3.out).mono ?_; rintro e w4 ⟨y, hy, rfl, oy, b4⟩; have H4 := qh (H3.out.call b4).drop; have OY := qh (oy.mono H3.out.below.size); have Y4 := qh (fun y hy => (Y3.out y hy).from b4); have VY := qh hy; clear hy oy b4 H3 Y3 X3)
    | ((with_reducible refine ag 23 22 ?_); refine mD.aj rfl (.tmp 23) (.tmp 22) rfl rfl w.heap.size j y (by first | rfl | (simp only [Nat.zero_add]; rfl)) rfl 92 _ (H4.out.b (w.heap.size) (92) ((cellsOf aY.cells (ys ++ List.replicate (l.length - j) aZ)).toArray) (by simp)) (by rw [List.length_append, List.length_replicate, HY.out.1]; have := HJ.out; omega) ?_; intro w5 o5 b5
       have hb4 := H4.out.b (w.heap.size) (92) ((cellsOf aY.cells (ys ++ List.replicate (l.length - j) aZ)).toArray) (by simp)
       rw [xU ys aZ y l.length j HY.out.1 HJ.out] at b5
       have H5 := qh (H4.out.turn o5 b5 (Nat.le_refl _) (by simp))
       have Y5 := qh (show ∀ u ∈ ys ++ [y], Bq w.heap.size w5 u from fun u hu => by
        rcases List.mem_append.1 hu with hu | hu
        ·exact (Y4.out u hu).only o5 hb4 (by decide) (by decide) (by decide)
        ·rw [List.mem_singleton] at hu; subst hu; exact OY.out.only o5 hb4 (by decide) (by decide) (by decide))
       clear hb4 o5 b5 H4 Y4 OY))
   go_roundw
   case rel => exact ⟨j + 1, ys ++ [y], by go_num, HJ.out, qh ⟨by rw [List.length_append, HY.out.1]; rfl, yJ aY.T ys l j x y HX.out HY.out.2.1 VY.out, Y5.out⟩, H5⟩
   case measure => have := HJ.out; simp [intOf]; omega
  ·have hd : decide ((j : Int) < (l.length : Int)) = false := by simp; omega
   obtain rfl : j = l.length := by omega
   go_wp2_with fail
   go_ret
   have hB := HB.out.b (w.heap.size) (92) ((cellsOf aY.cells (ys ++ List.replicate (l.length - l.length) aZ)).toArray) (by simp)
   rw [Nat.sub_self, List.replicate_zero, List.append_nil] at hB
   obtain ⟨y1, y2, y3⟩ := HY.out
   rw [List.take_length] at y2
   exact ⟨some ⟨w.heap.size, 0, none⟩, l.length, ys, y2, by rw [y1]; rfl, by rw [y1]; exact gq aY.len hB (Nat.le_refl _) y1 (by have := HN.out; unfold maxLen; omega), y3, HB.out.below⟩
theorem RH (b : bF) (ys : List aY) (A : Option Addr) (c : Nat) (h : ys.map aY.T = b.bG.map aY.T) : ({ b with bG := ys, A := A, c := c } : bF).B = b.B := by
 unfold bF.B
 simp only [h]
theorem xZ (b : bF) (w : World) (hb : b.In w w.heap.size) (hp : ∀ t ∈ b.bG, iy t.T) (hn : b.bG.length ≤ 900) :
 Calls Tryz.prog 192 #[.agg b.cells.toArray] w fun e w' => ∃ y : bF, y.B = b.B ∧ e = .returned (.agg y.cells.toArray) ∧ uZ w.heap.size w' y ∧ Below w.heap.size w w' := by
 obtain ⟨Z, hZ, hz, hzs, hzn⟩ := bB zQ uU
 have HS := qh hzs
 have H0 := qh (show Holds w [(w.heap.size, 70, b.cells.toArray), (w.heap.size + 1, 70, Z)] ((w.alloc (.cells b.cells.toArray 70)).alloc (.cells Z 70)) by
  have := ((Holds.nil w).box 70 b.cells.toArray).box 70 Z
  simp only [World.size_alloc] at this
  exact this.of (by simp [or_comm]))
 have HW := qh (fun W (hW : Below w.heap.size w W) => M9 b.A b.c b.bG W ((hb.row.below hW).more hW.size) (fun x hx => ((hb.each x hx).below hW).more hW.size) hp hn)
 have k3 : ((w.alloc (.cells b.cells.toArray 70)).alloc (.cells Z 70)).cell? ⟨w.heap.size, 65, none⟩ = some (.slice b.A b.bG.length b.c) := bF.c3 (au.ah (H0.out.b (w.heap.size) (70) (b.cells.toArray) (by simp)))
 clear hb hp hn hZ hzs
 go_enter Tryz.func192, Tryz.ntmps192
 go_wp2_with fail
 clear k3
 refine (HW.out _ H0.out.below).mono ?_
 rintro e w1 ⟨A1, c1, ys, hy, rfl, ow, oy, bw⟩
 have OW := qh (show uZ w.heap.size w1 ({ b with bG := ys, A := A1, c := c1 } : bF) from ⟨aW ow H0.out.below.size, fun t ht => (oy t ht).mono H0.out.below.size⟩)
 have HY := qh hy
 have H1 := qh (H0.out.call bw)
 clear ow oy bw hy H0 HW
 go_wp2_with (first
  | ((with_reducible refine ag 6 5 ?_); refine aJ rfl 68 (.tmp 6) (.tmp 5) rfl rfl w.heap.size 65 (.slice A1 ys.length c1) rfl rfl rfl 70 _ (H1.out.b (w.heap.size) (70) (b.cells.toArray) (by simp)) (by rw [fe.arr]; omega) (by kernel_rfl) ?_; intro w2 ox bx; rw [bF.Iy] at bx; have H2 := qh (H1.out.turn ox bx (Nat.le_refl _) (by simp)); have O2 := qh (OW.out.only ox (H1.out.b (w.heap.size) (70) (b.cells.toArray) (by simp)) (by decide) (by decide) (by decide) (by decide)); clear ox bx OW H1)
  | ((with_reducible refine az 1 ?_); refine fe.af rfl (.tmp 1) rfl w.heap.size 0 rfl ({ b with bG := ys, A := A1, c := c1 } : bF) (au.ah (H2.out.b (w.heap.size) (70) (({ b with bG := ys, A := A1, c := c1 } : bF).cells.toArray) (by simp))) ?_)
  | ((with_reducible refine ag 2 7 ?_); refine fe.aj rfl (.tmp 2) (.tmp 7) rfl rfl (w.heap.size + 1) ({ b with bG := ys, A := A1, c := c1 } : bF) rfl rfl 70 _ (H2.out.b (w.heap.size + 1) (70) (Z) (by simp)) (by rw [HS.out]) ?_; intro w9 o9 b9))
 refine bodyPost_ret (aU rfl _ _ (w.heap.size + 1) 70 _ (0, 0) _ rfl b9 Tryz.underlying70 rfl (by rw [fe.arr]; kernel_rfl)) rfl ?_
 exact ⟨({ b with bG := ys, A := A1, c := c1 } : bF), RH b ys A1 c1 HY.out, rfl, O2.out.only o9 (H2.out.b (w.heap.size + 1) (70) (Z) (by simp)) (by decide) (by decide) (by decide) (by decide), H2.out.below.trans (o9.below (by simp))⟩
theorem Un : cu Tryz.prog 204 70 bF.cells 66 := ⟨Tryz.underlying204, by kernel_rfl, bF.len, bF.one, Tryz.isAgg70, by omega⟩
theorem Xp : ∃ zv : Value, (Tryz.prog.info? 70).map (fun i => (i.zero, i.bytes)) = some (some zv, 96) ∧ zv.cells = bZ.cells.toArray := ⟨.agg bZ.cells.toArray, by kernel_rfl, rfl⟩
structure Ue (b : bF) : Prop where
 t : ∀ t ∈ b.bG, iy t.T
 n : b.bG.length ≤ 900
theorem Na (A : Option Addr) (c : Nat) (l : List bF) (w : World) (hl : aK bF.cells 66 w w.heap.size A c l) (he : ∀ x ∈ l, x.In w w.heap.size) (hp : ∀ x ∈ l, Ue x) (hn : l.length ≤ 900) :
 Calls Tryz.prog 191 #[.slice A l.length c, .func (.func 192) #[] #[]] w fun e w' => ∃ A' c' ys, ys.map bF.B = l.map bF.B ∧ e = .returned (.slice A' ys.length c') ∧ w'.ownsRow w.heap.size 70 66 (.slice A' ys.length c') ys.length (cellsOf bF.cells ys) ∧ (∀ y ∈ ys, uZ w.heap.size w' y) ∧ Below w.heap.size w w' := by
 have HL := qh hl
 have HE := qh he
 have HP := qh hp
 have HN := qh hn
 have ef : ∀ args w, (callFunc 192 args).run Tryz.prog w = .ok (.enter 192 args) w := enters_of Tryz.func192 (by kernel_rfl) rfl
 obtain ⟨zv, hz1, hz2⟩ := Xp
 have hmk : ∀ W, (Instr.makeSlice 204 (.int .i64 (l.length : Int)) (.int .i64 (l.length : Int))).run Tryz.prog W = .ok (.slice (some ⟨W.heap.size, 0, none⟩) l.length l.length) (W.alloc (.cells (cellsOf bF.cells (List.replicate l.length bZ)).toArray 70)) := fun W => Un.made W bZ zv 96 hz1 hz2 (by omega) .i64 .i64 l.length (by omega)
 obtain ⟨Z, hZ, hz, hzs, hzn⟩ := bB zQ uU
 have HS := qh hzs
 have H1 := qh (show Holds w [(w.heap.size, 70, (cellsOf bF.cells (([] : List bF) ++ List.replicate (l.length - 0) bZ)).toArray)] (w.alloc (.cells (cellsOf bF.cells (List.replicate l.length bZ)).toArray 70)) from (Holds.nil w).box 70 _)
 clear hz1 hz2 hl he hp hn hZ hzs
 go_enter Tryz.func191, Tryz.ntmps191
 go_wp2_with fail
 clear hmk
 go_loopw [13] (fun si wr => ∃ (j : Nat) (ys : List bF), si = .int .i64 j ∧ j ≤ l.length ∧ Hid (ys.length = j ∧ ys.map bF.B = (l.take j).map bF.B ∧ ∀ y ∈ ys, uZ w.heap.size wr y) ∧ Hid (Holds w [(w.heap.size, 70, (cellsOf bF.cells (ys ++ List.replicate (l.length - j) bZ)).toArray)] wr)) (fun si _ => l.length - (intOf si).toNat)
 case atStart => exact ⟨0, [], rfl, Nat.zero_le _, qh ⟨rfl, rfl, fun _ h => absurd h List.not_mem_nil⟩, H1⟩
 case round =>
  clear H1
  obtain ⟨j, ys, rfl, hj, HY, HB⟩ := hrel
  by_cases hlt : j < l.length
  ·have hd : decide ((j : Int) < (l.length : Int)) = true := by simp; omega
   have hi0 : (0 : Int) ≤ (j : Int) := by omega
   have hi1 : (j : Int) < (l.length : Int) := by omega
   obtain ⟨g, o, hA, hg, hc⟩ := (HL.out.below HB.out.below).at bF.len hlt
   obtain ⟨x, hx⟩ : ∃ x, l[j]'hlt = x := ⟨_, rfl⟩
   have HX := qh (show l[j]? = some x by rw [List.getElem?_eq_getElem hlt, hx])
   have HM := qh (show x ∈ l from hx ▸ List.getElem_mem hlt)
   rw [hx] at hc
   subst hA
   have HC := qh hc
   have HJ := qh hlt
   have hln : l.length ≤ 900 := HN.out
   have HF := qh (fun (W : World) (h : x.In W W.heap.size) => xZ x W h (HP.out x HM.out).t (HP.out x HM.out).n)
   clear hx hc hg hlt
   go_wp2_with (first
    | ((with_reducible refine az 16 ?_); refine fe.af rfl (.tmp 16) rfl g (o + j * 66) rfl x HC.out ?_)
    | ((with_reducible refine ag 7 17 ?_); refine fe.aj rfl (.tmp 7) (.tmp 17) rfl rfl wr.heap.size x rfl rfl 70 _ (ax.new _ _ _) (by rw [HS.out]) ?_; intro w3 o3 b3; have B3 := ((Below.refl wr.heap.size wr).alloc (Nat.le_refl _) (.cells Z 70)).trans (o3.below (by simp)); have H3 := qh (HB.out.put o3 b3); have Y3 := qh (fun y hy => (HY.out.2.2 y hy).from B3); have X3 := qh (show x.In w3 w3.heap.size from (((HE.out x HM.out).below H3.out.below).more H3.out.below.size)); clear o3 b3 B3 HC)
    | ((with_reducible refine az 7 ?_); refine fe.af rfl (.tmp 7) rfl wr.heap.size 0 rfl x (au.ah (H3.out.b (wr.heap.size) (70) ((bF.cells x).toArray) (by simp))) ?_)
    | (go_at_fn 192; refine (HF.out _ X3.out).mono ?_; rintro e w4 ⟨y, hy, rfl, oy, b4⟩; have H4 := qh (H3.out.call b4).drop; have OY := qh (oy.mono H3.out.below.size); have Y4 := qh (fun y hy => (Y3.out y hy).from b4); have VY := qh hy; clear hy oy b4 H3 Y3 X3)
    | ((with_reducible refine ag 23 22 ?_); refine Un.aj rfl (.tmp 23) (.tmp 22) rfl rfl w.heap.size j y (by first | rfl | (simp only [Nat.zero_add]; rfl)) rfl 70 _ (H4.out.b (w.heap.size) (70) ((cellsOf bF.cells (ys ++ List.replicate (l.length - j) bZ)).toArray) (by simp)) (by rw [List.length_append, List.length_replicate, HY.out.1]; have := HJ.out; omega) ?_; intro w5 o5 b5
       have hb4 := H4.out.b (w.heap.size) (70) ((cellsOf bF.cells (ys ++ List.replicate (l.length - j) bZ)).toArray) (by simp)
       rw [xU ys bZ y l.length j HY.out.1 HJ.out] at b5
       have H5 := qh (H4.out.turn o5 b5 (Nat.le_refl _) (by simp))
       have Y5 := qh (show ∀ u ∈ ys ++ [y], uZ w.heap.size w5 u from fun u hu => by
        rcases List.mem_append.1 hu with hu | hu
        ·exact (Y4.out u hu).only o5 hb4 (by decide) (by decide) (by decide) (by decide)
        ·rw [List.mem_singleton] at hu; subst hu; exact OY.out.only o5 hb4 (by decide) (by decide) (by decide) (by decide))
       clear hb4 o5 b5 H4 Y4 OY))
   go_roundw
   case rel => exact ⟨j + 1, ys ++ [y], by go_num, HJ.out, qh ⟨by rw [List.length_append, HY.out.1]; rfl, yJ bF.B ys l j x y HX.out HY.out.2.1 VY.out, Y5.out⟩, H5⟩
   case measure => have := HJ.out; simp [intOf]; omega
  ·have hd : decide ((j : Int) < (l.length : Int)) = false := by simp; omega
   obtain rfl : j = l.length := by omega
   go_wp2_with fail
   go_ret
   have hB := HB.out.b (w.heap.size) (70) ((cellsOf bF.cells (ys ++ List.replicate (l.length - l.length) bZ)).toArray) (by simp)
   rw [Nat.sub_self, List.replicate_zero, List.append_nil] at hB
   obtain ⟨y1, y2, y3⟩ := HY.out
   rw [List.take_length] at y2
   exact ⟨some ⟨w.heap.size, 0, none⟩, l.length, ys, y2, by rw [y1]; rfl, by rw [y1]; exact gq bF.len hB (Nat.le_refl _) y1 (by have := HN.out; unfold maxLen; omega), y3, HB.out.below⟩
def zS : eB := ⟨bZ, UA, none, 0⟩
theorem Uu : ∃ zv : Value, (Tryz.prog.info? 340).map (fun i => (i.zero, i.bytes)) = some (some zv, 1272) ∧ zv.cells = zS.cells.toArray := ⟨.agg zS.cells.toArray, by kernel_rfl, rfl⟩
theorem xY : ((Tryz.prog.info? 340).bind (·.zero)) = some (.agg zS.cells.toArray) := by kernel_rfl
theorem Iq : zS.cells.toArray.size = 1128 + 1 := by rw [List.size_toArray, eB.len]
theorem JR (A : Option Addr) (c : Nat) (w : World) :
 Calls Tryz.prog 249 #[.slice A 0 c, .func (.func 250) #[] #[]] w fun e w' => ∃ A' c' ys, ys.map eB.S = ([] : List eB).map eB.S ∧ e = .returned (.slice A' ys.length c') ∧ w'.ownsRow w.heap.size 340 1129 (.slice A' ys.length c') ys.length (cellsOf eB.cells ys) ∧ (∀ y ∈ ys, wZ w.heap.size w' y) ∧ Below w.heap.size w w' := by
 obtain ⟨zv, hz1, hz2⟩ := Uu
 have hmk : ∀ W, (Instr.makeSlice 43 (.int .i64 0) (.int .i64 0)).run Tryz.prog W = .ok (.slice (some ⟨W.heap.size, 0, none⟩) 0 0) (W.alloc (.cells (cellsOf eB.cells (List.replicate 0 zS)).toArray 340)) := fun W => Jn.made W zS zv 1272 hz1 hz2 (by omega) .i64 .i64 0 (by omega)
 have H1 := qh (show Holds w [(w.heap.size, 340, (cellsOf eB.cells (List.replicate 0 zS)).toArray)] (w.alloc (.cells (cellsOf eB.cells (List.replicate 0 zS)).toArray 340)) from (Holds.nil w).box 340 _)
 clear hz1 hz2
 go_enter Tryz.func249, Tryz.ntmps249
 go_wp2_with fail
 clear hmk
 go_loopw [13] (fun si wr => si = .int .i64 0 ∧ Hid (Holds w [(w.heap.size, 340, (cellsOf eB.cells (List.replicate 0 zS)).toArray)] wr)) (fun _ _ => 0)
 case atStart => exact ⟨rfl, H1⟩
 case round =>
  clear H1
  obtain ⟨rfl, HB⟩ := hrel
  go_wp2_with fail
  go_ret
  have hB := HB.out.b (w.heap.size) (340) ((cellsOf eB.cells (List.replicate 0 zS)).toArray) (by simp)
  exact ⟨some ⟨w.heap.size, 0, none⟩, 0, [], rfl, rfl, gq eB.len hB (Nat.le_refl _) rfl (Nat.zero_le _), fun _ h => absurd h List.not_mem_nil, HB.out.below⟩
theorem Ak (d : CA) (w : World) (hd : d.c.In w w.heap.size) (hn : kE d.c.C) (he : ∀ W, Below w.heap.size w W → Calls Tryz.prog 249 #[.slice d.Ap d.past.length d.cp, .func (.func 250) #[] #[]] W fun e w' => ∃ A' c' ys, ys.map eB.S = d.past.map eB.S ∧ e = .returned (.slice A' ys.length c') ∧ w'.ownsRow W.heap.size 340 1129 (.slice A' ys.length c') ys.length (cellsOf eB.cells ys) ∧ (∀ y ∈ ys, wZ W.heap.size w' y) ∧ Below W.heap.size W w') :
 Calls Tryz.prog 190 #[.agg d.cells.toArray] w fun e w' => ∃ y : CA, y.V = d.V ∧ e = .returned (.agg y.cells.toArray) ∧ nC w.heap.size w' y ∧ Below w.heap.size w w' := by
 obtain ⟨Z, hZ, hz, hzs, hzn⟩ := bB dZ fQ
 have HS := qh hzs
 have H0 := qh (show Holds w [(w.heap.size, 45, d.cells.toArray), (w.heap.size + 1, 45, Z)] ((w.alloc (.cells d.cells.toArray 45)).alloc (.cells Z 45)) by
  have := ((Holds.nil w).box 45 d.cells.toArray).box 45 Z
  simp only [World.size_alloc] at this
  exact this.of (by simp [or_comm]))
 have HA := qh (fun W (hb : Below w.heap.size w W) => yh d W ((hd.below hb).more hb.size) hn)
 have HE := qh he
 clear hd hn he hZ hzs
 go_enter Tryz.func190, Tryz.ntmps190
 go_wp2_with ((with_reducible refine az 1 ?_); refine cO.af rfl (.tmp 1) rfl w.heap.size 0 rfl d (au.ah (H0.out.b (w.heap.size) (45) (d.cells.toArray) (by simp))) ?_)
 refine (HA.out _ H0.out.below).mono ?_
 rintro e w1 ⟨y, hy, rfl, oy, bw⟩
 have HY := qh hy
 have OY := qh (oy.mono H0.out.below.size)
 have H1 := qh (H0.out.call bw)
 clear hy oy bw H0 HA
 go_wp2_with ((with_reducible refine ag 3 5 ?_); refine cO.aj rfl (.tmp 3) (.tmp 5) rfl rfl w1.heap.size (Ib y) rfl rfl 45 _ (ax.new _ _ _) (by rw [HS.out]) ?_; intro w2 o2 b2; have H2 := qh (H1.out.put o2 b2); have O2 := qh (OY.out.from (((Below.refl w1.heap.size w1).alloc (Nat.le_refl _) (.cells Z 45)).trans (o2.below (by simp)))); have k7 : w2.cell? ⟨w.heap.size, 1062, none⟩ = some (.slice d.Ap d.past.length d.cp) := (by have := eT.c7 (au.ah (H2.out.b (w.heap.size) (45) (d.cells.toArray) (by simp))); rwa [Nat.zero_add] at this); clear o2 b2 OY)
 clear k7
 have HG := qh (show w.heap.size + 1 < w1.heap.size from (H1.out.b (w.heap.size + 1) (45) (Z) (by simp)).lt)
 clear H1
 refine (HE.out _ H2.out.below).mono ?_
 rintro e w3 ⟨A3, c3, ys, hys, rfl, os, oe, bw⟩
 have YG := qh hys
 have H3 := qh (H2.out.call bw)
 have OD := qh (show nC w.heap.size w3 (⟨y, ys, A3, c3⟩ : CA) from ⟨O2.out.from bw, aW os H2.out.below.size, fun s hs => (oe s hs).mono H2.out.below.size⟩)
 clear hys os oe bw O2 H2
 go_wp2_with (first
  | ((with_reducible refine ag 9 8 ?_); refine aJ rfl 43 (.tmp 9) (.tmp 8) rfl rfl w1.heap.size 1062 (.slice A3 ys.length c3) rfl rfl rfl 45 _ (H3.out.b (w1.heap.size) (45) ((Ib y).cells.toArray) (by simp)) (by rw [cO.arr]; omega) (by kernel_rfl) ?_; intro w4 ox bx; have sQ : ax w4 w1.heap.size 45 (⟨y, ys, A3, c3⟩ : CA).cells.toArray := (by rw [show (Ib y).cells.toArray.setIfInBounds 1062 (.slice A3 ys.length c3) = (⟨y, ys, A3, c3⟩ : CA).cells.toArray from wH y none A3 0 ys.length 0 c3] at bx; exact bx); have H4 := qh (H3.out.turn ox sQ (by have := HG.out; omega) (by have := HG.out; simp; omega)); have OE := qh (OD.out.only ox (H3.out.b (w1.heap.size) (45) ((Ib y).cells.toArray) (by simp)) mZ); clear ox bx sQ OD H3)
  | ((with_reducible refine az 3 ?_); refine cO.af rfl (.tmp 3) rfl w1.heap.size 0 rfl (⟨y, ys, A3, c3⟩ : CA) (au.ah (H4.out.b (w1.heap.size) (45) ((⟨y, ys, A3, c3⟩ : CA).cells.toArray) (by simp))) ?_)
  | ((with_reducible refine ag 2 10 ?_); refine cO.aj rfl (.tmp 2) (.tmp 10) rfl rfl (w.heap.size + 1) (⟨y, ys, A3, c3⟩ : CA) rfl rfl 45 _ (H4.out.b (w.heap.size + 1) (45) (Z) (by simp)) (by rw [HS.out]) ?_; intro w9 o9 b9))
 refine bodyPost_ret (aU rfl _ _ (w.heap.size + 1) 45 _ (0, 0) _ rfl b9 Tryz.underlying45 rfl (by rw [cO.arr]; kernel_rfl)) rfl ?_
 exact ⟨(⟨y, ys, A3, c3⟩ : CA), by show (⟨y.C, ys.map eB.S⟩ : CV) = ⟨d.c.C, d.past.map eB.S⟩; rw [HY.out, YG.out], rfl, OE.out.only o9 (H4.out.b (w.heap.size + 1) (45) (Z) (by simp)) mZ, H4.out.below.trans (o9.below (by simp))⟩
end
section
open Go.RowKit
theorem Qe (w : World) : Calls Tryz.prog 126 #[.slice none 0 0] w fun e w' => e = .returned (.slice none 0 0) ∧ w' = w := by
 have he : ∀ W : World, (binOp BinOp.eql 46 (.slice none 0 0) (.slice none 0 0)).run Tryz.prog W = .ok (.bool true) W := fun W => by kernel_rfl
 go_enter Tryz.func126, Tryz.ntmps126
 go_wp2_with fail
 go_ret
 exact ⟨rfl, rfl⟩
theorem nQ (w : World) : Calls Tryz.prog 90 #[.slice none 0 0] w fun e w' => e = .returned (.slice none 0 0) ∧ w' = w := by
 have he : ∀ W : World, (binOp BinOp.eql 47 (.slice none 0 0) (.slice none 0 0)).run Tryz.prog W = .ok (.bool true) W := fun W => by kernel_rfl
 go_enter Tryz.func90, Tryz.ntmps90
 go_wp2_with fail
 go_ret
 exact ⟨rfl, rfl⟩
theorem UC : ∃ Z : Array Value, Z = #[] ∧ ∀ W : World, (Instr.makeSlice 68 (.int .i64 0) (.int .i64 0)).run Tryz.prog W = .ok (.slice (some ⟨W.heap.size, 0, none⟩) 0 0) (W.alloc (.cells Z 92)) := by
 obtain ⟨zv, hz1, hz2⟩ := Ut
 exact ⟨_, rfl, fun W => mD.made W aZ zv 144 hz1 hz2 (by omega) .i64 .i64 0 (by omega)⟩
theorem Tv (f : Value) (w : World) : Calls Tryz.prog 149 #[.slice none 0 0, f] w fun e w' => e = .returned (.slice (some ⟨w.heap.size, 0, none⟩) 0 0) ∧ ax w' w.heap.size 92 #[] ∧ Below w.heap.size w w' := by
 obtain ⟨Z, rfl, hmk⟩ := UC
 have B0 := qh (show ax (w.alloc (.cells #[] 92)) w.heap.size 92 #[] ∧ Below w.heap.size w (w.alloc (.cells #[] 92)) from ⟨ax.new _ _ _, (Below.refl _ _).alloc (Nat.le_refl _) _⟩)
 go_enter Tryz.func149, Tryz.ntmps149
 go_wp2_with fail
 refine wp_loop_rounds 1 ?_
 rw [rounds_succ]
 go_wp2_with fail
 go_ret
 exact ⟨rfl, B0.out⟩
theorem VE (f : Value) (w : World) : Calls Tryz.prog 92 #[.slice none 0 0, f] w fun e w' => e = .returned (.slice (some ⟨w.heap.size, 0, none⟩) 0 0) ∧ ax w' w.heap.size 92 #[] ∧ Below w.heap.size w w' := by
 obtain ⟨Z, rfl, hmk⟩ := UC
 have B0 := qh (show ax (w.alloc (.cells #[] 92)) w.heap.size 92 #[] ∧ Below w.heap.size w (w.alloc (.cells #[] 92)) from ⟨ax.new _ _ _, (Below.refl _ _).alloc (Nat.le_refl _) _⟩)
 go_enter Tryz.func92, Tryz.ntmps92
 go_wp2_with fail
 refine wp_loop_rounds 1 ?_
 rw [rounds_succ]
 go_wp2_with fail
 go_ret
 exact ⟨rfl, B0.out⟩
theorem Cg (z : aQ .u64) (w : World) : Calls Tryz.prog 94 #[.agg (aA z).toArray] w fun e w' => ∃ g, w.heap.size ≤ g ∧ e = .returned (.slice (some ⟨g, 0, none⟩) 0 0) ∧ ax w' g 92 #[] ∧ Below w.heap.size w w' := by
 have B0 := qh (show Below w.heap.size w (w.alloc (.cells (aA z).toArray 50)) from (Below.refl _ _).alloc (Nat.le_refl _) _)
 have c0 : (w.alloc (.cells (aA z).toArray 50)).cell? ⟨w.heap.size, 0, none⟩ = some (.slice none 0 0) := (au.ah (ax.new w 50 (aA z).toArray)).head
 have EA := qh (fun f V => Tv f V)
 go_enter Tryz.func94, Tryz.ntmps94
 go_wp2_with fail
 refine (EA.out _ _).mono ?_
 rintro e w1 ⟨rfl, k1, b1⟩
 have B1 := qh (B0.out.trans (b1.mono B0.out.size))
 have K1 := qh k1
 clear b1 k1 c0
 go_wp2_with fail
 go_ret
 exact ⟨_, by simp, rfl, by simpa using K1.out, B1.out⟩
end
section
open Go.RowKit
structure FL (T : dX) : Prop where
 i : T.ins.length ≤ 2
 o : T.outs.length = 1
 n : T.av.length ≤ 1
 t : T.notes.length ≤ 1
theorem FL.Zf {T : dX} (h : FL T) : wQ T ≤ 2 := by
 have := h.o; have := h.n
 unfold wQ
 omega
end
section
open Go.RowKit
theorem Jw (b : bF) (c : eT) (t : TypeId) (ht : t = 340) : Tryz.prog.built t [(0, .agg b.cells.toArray), (1, .agg (Ib c).cells.toArray)] = some (⟨b, c, none, 0⟩ : eB).cells.toArray := by
 subst ht
 refine (lC (n := 1129) (places := [(0, 66), (66, 1063)]) (by kernel_rfl) Tryz.underlying340 (by kernel_rfl) ?_ ?_).trans ?_
 rotate_left 2
 ·simp [Value.cells, eB.cells, Ib, CA.cells]
 refine ⟨?_, ?_, trivial⟩
 ·show some (0, 66) = some (0, b.cells.toArray.size)
  rw [fe.arr]
 ·show some (66, 1063) = some (0 + b.cells.toArray.size, (Ib c).cells.toArray.size)
  rw [fe.arr, cO.arr]
 ·show 1129 = b.cells.toArray.size + ((Ib c).cells.toArray.size + 0)
  rw [fe.arr, cO.arr]
theorem Li (d : CA) (t : TypeId) (ht : t = 45) : Tryz.prog.built t [(0, .int .u32 d.c.C.h.1), (1, .agg (ak d.c.C.gB).toArray), (2, .slice d.c.Ac d.c.C.aV.length d.c.cc), (3, .slice d.c.An d.c.C.av.length d.c.cn), (4, .agg d.c.C.tree.cells.toArray), (5, .agg #[.slice d.c.Ar d.c.C.ring.length d.c.cr]), (6, .int .i64 d.c.C.pool), (7, .slice d.Ap d.past.length d.cp)] = some d.cells.toArray := by
 subst ht
 have h1 : (ak d.c.C.gB).toArray.size = 32 := by rw [List.size_toArray, aC]
 have h2 : d.c.C.tree.cells.toArray.size = 1025 := gz.arr d.c.C.tree
 refine (lC (n := 1063) (places := [(0, 1), (1, 32), (33, 1), (34, 1), (35, 1025), (1060, 1), (1061, 1), (1062, 1)]) (by kernel_rfl) Tryz.underlying45 (by kernel_rfl) ?_ ?_).trans ?_
 rotate_left 2
 ·simp [Value.cells, CA.cells, eT.cells]
 refine ⟨rfl, ?_, ?_, ?_, ?_, ?_, ?_, ?_, trivial⟩
 ·show some (1, 32) = some (0 + 1, (ak d.c.C.gB).toArray.size)
  rw [h1]
 ·show some (33, 1) = some (0 + 1 + (ak d.c.C.gB).toArray.size, 1)
  rw [h1]
 ·show some (34, 1) = some (0 + 1 + (ak d.c.C.gB).toArray.size + 1, 1)
  rw [h1]
 ·show some (35, 1025) = some (0 + 1 + (ak d.c.C.gB).toArray.size + 1 + 1, d.c.C.tree.cells.toArray.size)
  rw [h1, h2]
 ·show some (1060, 1) = some (0 + 1 + (ak d.c.C.gB).toArray.size + 1 + 1 + d.c.C.tree.cells.toArray.size, 1)
  rw [h1, h2]
 ·show some (1061, 1) = some (0 + 1 + (ak d.c.C.gB).toArray.size + 1 + 1 + d.c.C.tree.cells.toArray.size + 1, 1)
  rw [h1, h2]
 ·show some (1062, 1) = some (0 + 1 + (ak d.c.C.gB).toArray.size + 1 + 1 + d.c.C.tree.cells.toArray.size + 1 + 1, 1)
  rw [h1, h2]
 ·show 1063 = 1 + ((ak d.c.C.gB).toArray.size + (1 + (1 + (d.c.C.tree.cells.toArray.size + (1 + (1 + (1 + 0)))))))
  rw [h1, h2]
theorem zZ : cZ Tryz.prog 340 eB.cells 1129 := ⟨by kernel_rfl, eB.len, eB.one, Tryz.isAgg340⟩
def LD (c : eT) (A : Option Addr) (cp : Nat) : CA := ⟨c, [], A, cp⟩
theorem Gc (b : bF) (c : eT) (A : Option Addr) (cp : Nat) : Tryz.prog.built 340 [(0, .agg b.cells.toArray), (1, .agg (LD c A cp).cells.toArray)] = some (⟨b, c, A, cp⟩ : eB).cells.toArray := by
 refine (lC (n := 1129) (places := [(0, 66), (66, 1063)]) (by kernel_rfl) Tryz.underlying340 (by kernel_rfl) ?_ ?_).trans ?_
 rotate_left 2
 ·simp [Value.cells, eB.cells, LD, CA.cells]
 refine ⟨?_, ?_, trivial⟩
 ·show some (0, 66) = some (0, b.cells.toArray.size)
  rw [fe.arr]
 ·show some (66, 1063) = some (0 + b.cells.toArray.size, (LD c A cp).cells.toArray.size)
  rw [fe.arr, cO.arr]
 ·show 1129 = b.cells.toArray.size + ((LD c A cp).cells.toArray.size + 0)
  rw [fe.arr, cO.arr]
structure rz where
 U : jE
 d : CA
 b : bF
def rz.cells (k : rz) : List Value := k.U.cells ++ (k.d.cells ++ k.b.cells)
theorem OJ (k : rz) (t : TypeId) (ht : t = 222) : Tryz.prog.built t [(0, .agg k.U.cells.toArray), (1, .agg k.d.cells.toArray), (2, .agg k.b.cells.toArray)] = some k.cells.toArray := by
 subst ht
 refine (lC (n := 1136) (places := [(0, 7), (7, 1063), (1070, 66)]) (by kernel_rfl) Tryz.underlying222 (by kernel_rfl) ?_ ?_).trans ?_
 rotate_left 2
 ·simp [Value.cells, rz.cells]
 refine ⟨?_, ?_, ?_, trivial⟩
 ·show some (0, 7) = some (0, k.U.cells.toArray.size)
  rw [pJ.arr]
 ·show some (7, 1063) = some (0 + k.U.cells.toArray.size, k.d.cells.toArray.size)
  rw [pJ.arr, cO.arr]
 ·show some (1070, 66) = some (0 + k.U.cells.toArray.size + k.d.cells.toArray.size, k.b.cells.toArray.size)
  rw [pJ.arr, cO.arr, fe.arr]
 ·show 1136 = k.U.cells.toArray.size + (k.d.cells.toArray.size + (k.b.cells.toArray.size + 0))
  rw [pJ.arr, cO.arr, fe.arr]
structure LQ (s : eB) : Prop where
 b : Ue s.b
 c : kE s.c.C
theorem M6 (s : eB) (w : World) (hs : s.In w w.heap.size) (hn : LQ s) :
 Calls Tryz.prog 250 #[.agg s.cells.toArray] w fun e w' => ∃ y : eB, y.S = s.S ∧ e = .returned (.agg y.cells.toArray) ∧ wZ w.heap.size w' y ∧ Below w.heap.size w w' := by
 obtain ⟨Z, hZ, hz, hzs, hzn⟩ := bB xY Iq
 have HS := qh hzs
 have H0 := qh (show Holds w [(w.heap.size, 340, s.cells.toArray), (w.heap.size + 1, 340, Z)] ((w.alloc (.cells s.cells.toArray 340)).alloc (.cells Z 340)) by
  have := ((Holds.nil w).box 340 s.cells.toArray).box 340 Z
  simp only [World.size_alloc] at this
  exact this.of (by simp [or_comm]))
 have HW := qh (fun W (hb : Below w.heap.size w W) => xZ s.b W ((hs.b.below hb).more hb.size) hn.b.t hn.b.n)
 have HC := qh (fun W (hb : Below w.heap.size w W) => Ak ⟨s.c, [], s.Ap, s.cp⟩ W ((hs.c.below hb).more hb.size) hn.c (fun V _ => JR s.Ap s.cp V))
 clear hs hn hZ hzs
 go_enter Tryz.func250, Tryz.ntmps250
 go_wp2_with fail
 refine wp_region_held_drew (S := fun V => Holds w [(w.heap.size, 340, s.cells.toArray)] V ∧ (∃ cs, cs.size = 1129 ∧ ax V (w.heap.size + 1) 340 cs)) (by kernel_rfl) ⟨(H0.out.call (Below.refl _ _).drew).of (by simp), Z, HS.out, (H0.out.b (w.heap.size + 1) (340) (Z) (by simp)).drew⟩ ?_
 clear H0
 intro hS
 refine tkp 0 (.pointer (some ⟨w.heap.size, 0, none⟩)) rfl hS ?_
 go_simp
 refine tk 1 (.agg s.b.cells.toArray) rfl (fe.aB (by rfl) (.tmp 3) rfl w.heap.size 0 rfl s.b (fun _ h => eB.c0 (au.ah (h.1.b (w.heap.size) (340) (s.cells.toArray) (by simp))))) hS ?_
 go_simp
 refine tkp 3 (.pointer (some ⟨w.heap.size, 66, none⟩)) rfl hS ?_
 go_simp
 refine tk 4 (.agg (⟨s.c, [], s.Ap, s.cp⟩ : CA).cells.toArray) rfl (cO.aB (by rfl) (.tmp 6) rfl w.heap.size 66 rfl (⟨s.c, [], s.Ap, s.cp⟩ : CA) (fun _ h => by have := eB.c1 (au.ah (h.1.b (w.heap.size) (340) (s.cells.toArray) (by simp))); rwa [Nat.zero_add] at this)) hS ?_
 go_simp
 refine rd 2 rfl (fun Kq hK => ?_)
 go_simp
 with_reducible refine (HW.out _ hS.1.below).mono ?_
 rintro e x1 ⟨yb, hyb, rfl, ob, b1⟩
 have OB := qh (ob.mono hS.1.below.size)
 have HYB := qh hyb
 refine hK.out _ _ ⟨hS.1.call b1, hS.2.imp fun cs h => ⟨h.1, aa b1 h.2 h.2.lt⟩⟩ (fun hS => ?_)
 clear hK Kq b1 ob hyb
 go_simp
 refine rd 5 rfl (fun Kq hK => ?_)
 go_simp
 with_reducible refine (HC.out _ hS.1.below).mono ?_
 rintro e x2 ⟨yc, WJ, rfl, oc, b2⟩
 have OC := qh (oc.c.mono hS.1.below.size)
 have OB2 := qh (OB.out.from b2)
 have HYC := qh WJ
 have HNP := qh (show yc.past = [] by have := congrArg (fun v => v.past.length) WJ; simp only [CA.V, List.length_map, List.length_nil] at this; exact List.length_eq_zero_iff.1 this)
 have HM := qh (show yc.cp ≤ maxLen from (dm eB.len oc.row).max)
 refine hK.out _ _ ⟨hS.1.call b2, hS.2.imp fun cs h => ⟨h.1, aa b2 h.2 h.2.lt⟩⟩ (fun hS => ?_)
 clear hK Kq b2 oc WJ OB
 have HCC := qh (show (LD yc.c yc.Ap yc.cp).cells = yc.cells by unfold LD CA.cells; rw [HNP.out])
 go_simp
 refine tk 6 (.agg (⟨yb, yc.c, yc.Ap, yc.cp⟩ : eB).cells.toArray) rfl (bH (by rfl) 340 #[(0, .tmp 5), (1, .tmp 8)] rfl (⟨yb, yc.c, yc.Ap, yc.cp⟩ : eB).cells.toArray ((congrArg (Tryz.prog.built 340) (show _ = [(0, Value.agg yb.cells.toArray), (1, Value.agg yc.cells.toArray)] by kernel_rfl)).trans ((congrArg (fun l => Tryz.prog.built 340 [(0, Value.agg yb.cells.toArray), (1, Value.agg (List.toArray l))]) HCC.out.symm).trans (Gc yb yc.c yc.Ap yc.cp)))) hS ?_
 go_simp
 obtain ⟨hS1, cz, hcz, hbz⟩ := id hS
 refine rd 7 rfl (fun Kq hK => ?_)
 refine zZ.aH rfl (.tmp 2) (.tmp 9) rfl rfl (w.heap.size + 1) (⟨yb, yc.c, yc.Ap, yc.cp⟩ : eB) rfl rfl 340 _ hbz hcz ?_
 intro w7 o7 b7
 have B7 := qh (hS.1.below.trans (o7.below (by simp)))
 have hz7 := hbz
 have OO := qh (show wZ w.heap.size w7 (⟨yb, yc.c, yc.Ap, yc.cp⟩ : eB) from ⟨OB2.out.only o7 hz7 (by decide) (by decide) (by decide) (by decide), OC.out.only o7 hz7 (by decide) (by decide), HM.out⟩)
 refine hK.out _ _ ?_ (fun _ => ?_)
 ·exact ⟨hS.1.keep o7 (by omega) (by simp), _, zZ.arr _, b7⟩
 clear hK Kq hS
 refine wpAnyH_done (by kernel_rfl) ?_ _
 go_wp2_with fail
 refine bodyPost_ret (aU rfl _ _ (w.heap.size + 1) 340 _ (0, 0) _ rfl b7 Tryz.underlying340 rfl (by rw [zZ.arr]; kernel_rfl)) rfl ?_
 exact ⟨(⟨yb, yc.c, yc.Ap, yc.cp⟩ : eB), by show (yb.B, yc.c.C) = (s.b.B, s.c.C); rw [HYB.out, show yc.c.C = s.c.C from congrArg CV.c HYC.out], rfl, OO.out, B7.out⟩
theorem DZ (A : Option Addr) (c : Nat) (l : List eB) (w : World) (hl : aK eB.cells 1129 w w.heap.size A c l) (he : ∀ x ∈ l, x.In w w.heap.size) (hp : ∀ x ∈ l, LQ x) (hn : l.length ≤ 900) :
 Calls Tryz.prog 249 #[.slice A l.length c, .func (.func 250) #[] #[]] w fun e w' => ∃ A' c' ys, ys.map eB.S = l.map eB.S ∧ e = .returned (.slice A' ys.length c') ∧ w'.ownsRow w.heap.size 340 1129 (.slice A' ys.length c') ys.length (cellsOf eB.cells ys) ∧ (∀ y ∈ ys, wZ w.heap.size w' y) ∧ Below w.heap.size w w' := by
 have HL := qh hl
 have HE := qh he
 have HP := qh hp
 have HN := qh hn
 have ef : ∀ args w, (callFunc 250 args).run Tryz.prog w = .ok (.enter 250 args) w := enters_of Tryz.func250 (by kernel_rfl) rfl
 obtain ⟨zv, hz1, hz2⟩ := Uu
 have hmk : ∀ W, (Instr.makeSlice 43 (.int .i64 (l.length : Int)) (.int .i64 (l.length : Int))).run Tryz.prog W = .ok (.slice (some ⟨W.heap.size, 0, none⟩) l.length l.length) (W.alloc (.cells (cellsOf eB.cells (List.replicate l.length zS)).toArray 340)) := fun W => Jn.made W zS zv 1272 hz1 hz2 (by omega) .i64 .i64 l.length (by omega)
 obtain ⟨Z, hZ, hz, hzs, hzn⟩ := bB xY Iq
 have HS := qh hzs
 have H1 := qh (show Holds w [(w.heap.size, 340, (cellsOf eB.cells (([] : List eB) ++ List.replicate (l.length - 0) zS)).toArray)] (w.alloc (.cells (cellsOf eB.cells (List.replicate l.length zS)).toArray 340)) from (Holds.nil w).box 340 _)
 clear hz1 hz2 hl he hp hn hZ hzs
 go_enter Tryz.func249, Tryz.ntmps249
 go_wp2_with fail
 clear hmk
 go_loopw [13] (fun si wr => ∃ (j : Nat) (ys : List eB), si = .int .i64 j ∧ j ≤ l.length ∧ Hid (ys.length = j ∧ ys.map eB.S = (l.take j).map eB.S ∧ ∀ y ∈ ys, wZ w.heap.size wr y) ∧ Hid (Holds w [(w.heap.size, 340, (cellsOf eB.cells (ys ++ List.replicate (l.length - j) zS)).toArray)] wr)) (fun si _ => l.length - (intOf si).toNat)
 case atStart => exact ⟨0, [], rfl, Nat.zero_le _, qh ⟨rfl, rfl, fun _ h => absurd h List.not_mem_nil⟩, H1⟩
 case round =>
  clear H1
  obtain ⟨j, ys, rfl, hj, HY, HB⟩ := hrel
  by_cases hlt : j < l.length
  ·have hd : decide ((j : Int) < (l.length : Int)) = true := by simp; omega
   have hi0 : (0 : Int) ≤ (j : Int) := by omega
   have hi1 : (j : Int) < (l.length : Int) := by omega
   obtain ⟨g, o, hA, hg, hc⟩ := (HL.out.below HB.out.below).at eB.len hlt
   obtain ⟨x, hx⟩ : ∃ x, l[j]'hlt = x := ⟨_, rfl⟩
   have HX := qh (show l[j]? = some x by rw [List.getElem?_eq_getElem hlt, hx])
   have HM := qh (show x ∈ l from hx ▸ List.getElem_mem hlt)
   rw [hx] at hc
   subst hA
   have HC := qh hc
   have HJ := qh hlt
   have hln : l.length ≤ 900 := HN.out
   have HF := qh (fun (W : World) (h : x.In W W.heap.size) => M6 x W h (HP.out x HM.out))
   clear hx hc hg hlt
   go_wp2_with (first
    | ((with_reducible refine az 16 ?_); refine zZ.af rfl (.tmp 16) rfl g (o + j * 1129) rfl x HC.out ?_)
    | ((with_reducible refine ag 7 17 ?_); refine zZ.aj rfl (.tmp 7) (.tmp 17) rfl rfl wr.heap.size x rfl rfl 340 _ (ax.new _ _ _) (by rw [HS.out]) ?_; intro w3 o3 b3; have B3 := ((Below.refl wr.heap.size wr).alloc (Nat.le_refl _) (.cells Z 340)).trans (o3.below (by simp)); have H3 := qh (HB.out.put o3 b3); have Y3 := qh (fun y hy => (HY.out.2.2 y hy).from B3); have X3 := qh (show x.In w3 w3.heap.size from (((HE.out x HM.out).below H3.out.below).more H3.out.below.size)); clear o3 b3 B3 HC)
    | ((with_reducible refine az 7 ?_); refine zZ.af rfl (.tmp 7) rfl wr.heap.size 0 rfl x (au.ah (H3.out.b (wr.heap.size) (340) ((eB.cells x).toArray) (by simp))) ?_)
    | (go_at_fn 250; refine (HF.out _ X3.out).mono ?_; rintro e w4 ⟨y, hy, rfl, oy, b4⟩; have H4 := qh (H3.out.call b4).drop; have OY := qh (oy.mono H3.out.below.size); have Y4 := qh (fun y hy => (Y3.out y hy).from b4); have VY := qh hy; clear hy oy b4 H3 Y3 X3)
    | ((with_reducible refine ag 23 22 ?_); refine Jn.aj rfl (.tmp 23) (.tmp 22) rfl rfl w.heap.size j y (by first | rfl | (simp only [Nat.zero_add]; rfl)) rfl 340 _ (H4.out.b (w.heap.size) (340) ((cellsOf eB.cells (ys ++ List.replicate (l.length - j) zS)).toArray) (by simp)) (by rw [List.length_append, List.length_replicate, HY.out.1]; have := HJ.out; omega) ?_; intro w5 o5 b5
       have hb4 := H4.out.b (w.heap.size) (340) ((cellsOf eB.cells (ys ++ List.replicate (l.length - j) zS)).toArray) (by simp)
       rw [xU ys zS y l.length j HY.out.1 HJ.out] at b5
       have H5 := qh (H4.out.turn o5 b5 (Nat.le_refl _) (by simp))
       have Y5 := qh (show ∀ u ∈ ys ++ [y], wZ w.heap.size w5 u from fun u hu => by
        rcases List.mem_append.1 hu with hu | hu
        ·exact (Y4.out u hu).only o5 hb4 (by decide) (by decide) (by decide) (by decide) (by decide)
        ·rw [List.mem_singleton] at hu; subst hu; exact OY.out.only o5 hb4 (by decide) (by decide) (by decide) (by decide) (by decide))
       clear hb4 o5 b5 H4 Y4 OY))
   go_roundw
   case rel => exact ⟨j + 1, ys ++ [y], by go_num, HJ.out, qh ⟨by rw [List.length_append, HY.out.1]; rfl, yJ eB.S ys l j x y HX.out HY.out.2.1 VY.out, Y5.out⟩, H5⟩
   case measure => have := HJ.out; simp [intOf]; omega
  ·have hd : decide ((j : Int) < (l.length : Int)) = false := by simp; omega
   obtain rfl : j = l.length := by omega
   go_wp2_with fail
   go_ret
   have hB := HB.out.b (w.heap.size) (340) ((cellsOf eB.cells (ys ++ List.replicate (l.length - l.length) zS)).toArray) (by simp)
   rw [Nat.sub_self, List.replicate_zero, List.append_nil] at hB
   obtain ⟨y1, y2, y3⟩ := HY.out
   rw [List.take_length] at y2
   exact ⟨some ⟨w.heap.size, 0, none⟩, l.length, ys, y2, by rw [y1]; rfl, by rw [y1]; exact gq eB.len hB (Nat.le_refl _) y1 (by have := HN.out; unfold maxLen; omega), y3, HB.out.below⟩
theorem Nf (d : CA) (w : World) (hd : d.In w w.heap.size) (hn : kE d.c.C) (hs : ∀ s ∈ d.past, LQ s) (hp : d.past.length ≤ 900) :
 Calls Tryz.prog 190 #[.agg d.cells.toArray] w fun e w' => ∃ y : CA, y.V = d.V ∧ e = .returned (.agg y.cells.toArray) ∧ nC w.heap.size w' y ∧ Below w.heap.size w w' :=
 Ak d w hd.c hn (fun W hb => DZ d.Ap d.cp d.past W ((hd.row.below hb).more hb.size) (fun x hx => ((hd.each x hx).below hb).more hb.size) hs hp)
end
section
open Go.RowKit
theorem Sa (a b : FK) (w : World) :
 Calls Tryz.prog 319 #[.agg (aR .u32 a).toArray, .agg (aR .u32 b).toArray] w fun e w' => e = .returned (.bool (jO a b)) ∧ Below w.heap.size w w' := by
 obtain ⟨r, hr⟩ : ∃ r, jO a b = r := ⟨_, rfl⟩
 rw [hr]
 unfold jO at hr
 have B0 := qh (show Below w.heap.size w ((w.alloc (.cells (aR .u32 a).toArray 142)).alloc (.cells (aR .u32 b).toArray 142)) from ((Below.refl w.heap.size w).alloc (Nat.le_refl _) _).alloc (by simp) _)
 have K0 := qh (show ax ((w.alloc (.cells (aR .u32 a).toArray 142)).alloc (.cells (aR .u32 b).toArray 142)) w.heap.size 142 (aR .u32 a).toArray from (ax.new w 142 (aR .u32 a).toArray).alloc _)
 have K1 := qh (show ax ((w.alloc (.cells (aR .u32 a).toArray 142)).alloc (.cells (aR .u32 b).toArray 142)) (w.heap.size + 1) 142 (aR .u32 b).toArray from bg (g := w.heap.size + 1) 142 (aR .u32 b).toArray (by simp))
 have c0 : ((w.alloc (.cells (aR .u32 a).toArray 142)).alloc (.cells (aR .u32 b).toArray 142)).cell? ⟨w.heap.size, 32, none⟩ = some (.int .u32 a.2.1) := by have := au.sI (au.ah K0.out); simpa using this
 have c1 : ((w.alloc (.cells (aR .u32 a).toArray 142)).alloc (.cells (aR .u32 b).toArray 142)).cell? ⟨w.heap.size + 1, 32, none⟩ = some (.int .u32 b.2.1) := by have := au.sI (au.ah K1.out); simpa using this
 obtain ⟨q0, hq0⟩ : ∃ q, LV a.1 b.1 = q := ⟨_, rfl⟩
 obtain ⟨q2, hq2⟩ : ∃ q, decide (a.2.1 < b.2.1) = q := ⟨_, rfl⟩
 have HC := qh (show ∀ W, Calls Tryz.prog 170 #[.agg (ak a.1).toArray, .agg (ak b.1).toArray] W fun e w' => e = .returned (.bool q0) ∧ Below W.heap.size W w' from fun W => by
  have := OQ a.1 b.1 W
  rw [← dQ, ← dQ, hq0] at this
  exact this.mono fun _ _ h => ⟨h.1, h.2.below⟩)
 by_cases he : a.1 = b.1
 ·have HE := qh (show decide (a.1 = b.1) = true from decide_eq_true he)
  have HR := qh (show q2 = r by rw [← hr, he, yL, hq2]; simp)
  clear hr hq0 he
  go_enter Tryz.func319, Tryz.ntmps319
  go_wp2_with (first
   | ((with_reducible refine fq 5 ?_); refine bL.af (by rfl) (.tmp 5) rfl (w.heap.size) (0) rfl (a.1) (au.ko (au.ah K0.out)) ?_)
   | ((with_reducible refine fq 7 ?_); refine bL.af (by rfl) (.tmp 7) rfl (w.heap.size + 1) (0) rfl (b.1) (au.ko (au.ah K1.out)) ?_)
   | ((with_reducible refine uV 6 8 ?_); refine iY (by rfl) 26 26 (.tmp 6) (.tmp 8) rfl (ak a.1).toArray (ak b.1).toArray rfl rfl (by kernel_rfl) true (fun V => (jw _ _ V).trans (by rw [HE.out])) ?_; simp only [Act.put, List.setIfInBounds_toArray, List.set_cons_succ, List.set_cons_zero]))
  go_ret
  exact ⟨by rw [← HR.out]; rfl, B0.out⟩
 ·have HE := qh (show decide (a.1 = b.1) = false from decide_eq_false he)
  have HR := qh (show q0 = r by rw [← hr, hq0, decide_eq_false he]; simp)
  clear hr hq0 he
  go_enter Tryz.func319, Tryz.ntmps319
  go_wp2_with (first
   | ((with_reducible refine fq 5 ?_); refine bL.af (by rfl) (.tmp 5) rfl (w.heap.size) (0) rfl (a.1) (au.ko (au.ah K0.out)) ?_)
   | ((with_reducible refine fq 7 ?_); refine bL.af (by rfl) (.tmp 7) rfl (w.heap.size + 1) (0) rfl (b.1) (au.ko (au.ah K1.out)) ?_)
   | ((with_reducible refine uV 6 8 ?_); refine iY (by rfl) 26 26 (.tmp 6) (.tmp 8) rfl (ak a.1).toArray (ak b.1).toArray rfl rfl (by kernel_rfl) false (fun V => (jw _ _ V).trans (by rw [HE.out])) ?_; simp only [Act.put, List.setIfInBounds_toArray, List.set_cons_succ, List.set_cons_zero])
   | ((with_reducible refine fq 10 ?_); refine bL.af (by rfl) (.tmp 10) rfl (w.heap.size) (0) rfl (a.1) (au.ko (au.ah K0.out)) ?_)
   | ((with_reducible refine fq 12 ?_); refine bL.af (by rfl) (.tmp 12) rfl (w.heap.size + 1) (0) rfl (b.1) (au.ko (au.ah K1.out)) ?_)
   | (go_at_call 170; refine (HC.out _).mono ?_; rintro e w1 ⟨rfl, b1⟩; have B1 := qh (B0.out.trans (b1.mono B0.out.size)); clear b1))
  go_ret
  exact ⟨by rw [← HR.out]; rfl, B1.out⟩
theorem PR : ∀ args w, (callFunc 335 args).run Tryz.prog w = .ok (.enter 335 args) w := enters_of Tryz.func335 (by kernel_rfl) rfl
theorem PO : ∀ args w, (callFunc 318 args).run Tryz.prog w = .ok (.enter 318 args) w := enters_of Tryz.func318 (by kernel_rfl) rfl
theorem KJ (g : Nat) (p : FK) (x : aD) (W : World) (hp : ax W g 142 (aR .u32 p).toArray) :
 Calls Tryz.prog 335 (#[.agg (aX x).toArray] ++ #[.pointer (some ⟨g, 0, none⟩)]) W fun e w' => e = .returned (.bool (decide (x.at_ = p))) ∧ Below W.heap.size W w' := by
 obtain ⟨q, hq⟩ : ∃ q, decide (x.at_ = p) = q := ⟨_, rfl⟩
 rw [hq]
 have HQ := qh hq
 have B0 := qh (show Below W.heap.size W (W.alloc (.cells (aX x).toArray 317)) from (Below.refl _ _).alloc (Nat.le_refl _) _)
 have K0 := qh (show au (W.alloc (.cells (aX x).toArray 317)) W.heap.size 0 (aX x) from au.ah (ax.new W 317 (aX x).toArray))
 have K1 := qh (show au (W.alloc (.cells (aX x).toArray 317)) g 0 (aR .u32 p) from au.ah (hp.alloc _))
 clear hq hp
 go_enter Tryz.func335, Tryz.ntmps335
 go_wp2_with (first
  | ((with_reducible refine fq 4 ?_); refine FW.af (by rfl) (.tmp 4) rfl (W.heap.size) (0) rfl (x.at_) (au.I9 K0.out) ?_)
  | ((with_reducible refine fq 1 ?_); refine FW.af (by rfl) (.tmp 1) rfl (g) (0) rfl (p) (K1.out) ?_)
  | ((with_reducible refine xB 5 6 ?_); refine iZ (by rfl) 142 142 (.tmp 5) (.tmp 6) rfl (aR .u32 x.at_).toArray (aR .u32 p).toArray rfl rfl (by kernel_rfl) q (fun V => (EX _ _ V).trans (by rw [HQ.out])) ?_; simp only [Act.put, List.setIfInBounds_toArray, List.set_cons_succ, List.set_cons_zero]))
 go_ret
 exact ⟨rfl, B0.out⟩
theorem Ni (g : Nat) (c : aD) (x : aD) (W : World) (hp : ax W g 317 (aX c).toArray) :
 Calls Tryz.prog 318 (#[.agg (aX x).toArray] ++ #[.pointer (some ⟨g, 0, none⟩)]) W fun e w' => e = .returned (.bool (jO c.at_ x.at_)) ∧ Below W.heap.size W w' := by
 obtain ⟨q, hq⟩ : ∃ q, jO c.at_ x.at_ = q := ⟨_, rfl⟩
 have HC := qh (fun V => hq ▸ Sa c.at_ x.at_ V)
 rw [hq]
 have B0 := qh (show Below W.heap.size W (W.alloc (.cells (aX x).toArray 317)) from (Below.refl _ _).alloc (Nat.le_refl _) _)
 have K0 := qh (show au (W.alloc (.cells (aX x).toArray 317)) W.heap.size 0 (aX x) from au.ah (ax.new W 317 (aX x).toArray))
 have K1 := qh (show au (W.alloc (.cells (aX x).toArray 317)) g 0 (aX c) from au.ah (hp.alloc _))
 clear hq hp
 go_enter Tryz.func318, Tryz.ntmps318
 go_wp2_with (first
  | ((with_reducible refine fq 4 ?_); refine FW.af (by rfl) (.tmp 4) rfl (g) (0) rfl (c.at_) (au.I9 K1.out) ?_)
  | ((with_reducible refine fq 6 ?_); refine FW.af (by rfl) (.tmp 6) rfl (W.heap.size) (0) rfl (x.at_) (au.I9 K0.out) ?_)
  | (go_at_call 319; refine (HC.out _).mono ?_; rintro e w1 ⟨rfl, b1⟩; have B1 := qh (B0.out.trans (b1.mono B0.out.size)); clear b1))
 go_ret
 exact ⟨rfl, B1.out⟩
end
section
open Go.RowKit
theorem yT (p : aD → Bool) (l : List aD) : (kS p l = -1 ∧ l.find? p = none ∧ l.findIdx? p = none) ∨ ∃ (j : Nat) (hj : j < l.length), kS p l = (j : Int) ∧ l.find? p = some (l[j]'hj) ∧ l.eraseP p = l.eraseIdx j ∧ l.findIdx? p = some j := by
 cases h : l.findIdx? p with
 | none =>
  left
  have h2 := h
  rw [List.findIdx?_eq_none_iff] at h
  exact ⟨uL p l (fun j hj => h _ (List.getElem_mem hj)), List.find?_eq_none.2 (fun x hx => by simpa using h x hx), rfl⟩
 | some j =>
  right
  have h2 := h
  rw [List.findIdx?_eq_some_iff_getElem] at h2
  obtain ⟨hj, he, hq⟩ := h2
  refine ⟨j, hj, yU p l j hj he (fun k hk hkj => by simpa using hq k hkj), ?_, ?_, rfl⟩
  ·rw [List.find?_eq_some_iff_getElem]
   exact ⟨he, j, hj, rfl, fun k hk => by simpa using hq k hk⟩
  ·rw [List.eraseP_eq_eraseIdx, h]
theorem Sd (A : Option Addr) (c : Nat) (l : List aD) (p : FK) (w : World) (hl : aK aX 68 w w.heap.size A c l) (hn : l.length ≤ 100000) :
 Calls Tryz.prog 317 #[.slice A l.length c, .agg (aR .u32 p).toArray] w fun e w' => e = .returned (.tuple #[.agg (aX ((lQ l p).getD dh)).toArray, .bool (lQ l p).isSome]) ∧ Below w.heap.size w w' := by
 obtain ⟨Z, hZ, hz, hzs, hzn⟩ := bB u6 rT
 have HS := qh hzs
 have B0 := qh (show Below w.heap.size w ((w.alloc (.cells (aR .u32 p).toArray 142)).alloc (.cells Z 317)) from ((Below.refl w.heap.size w).alloc (Nat.le_refl _) _).alloc (by simp) _)
 have K0 := qh (show ax ((w.alloc (.cells (aR .u32 p).toArray 142)).alloc (.cells Z 317)) w.heap.size 142 (aR .u32 p).toArray from (ax.new w 142 (aR .u32 p).toArray).alloc _)
 have Z0 := qh (show ax ((w.alloc (.cells (aR .u32 p).toArray 142)).alloc (.cells Z 317)) (w.heap.size + 1) 317 Z from bg (g := w.heap.size + 1) 317 Z (by simp))
 have HL := qh hl
 have YQ := qh (yT (fun x => decide (x.at_ = p)) l)
 have HN := qh hn
 clear hl hZ hzs
 go_enter Tryz.func317, Tryz.ntmps317
 go_wp2_with fail
 refine (qj A c l w.heap.size _ (by have := HN.out; omega) B0.out.size (HL.out.below B0.out) 335 #[.pointer (some ⟨w.heap.size, 0, none⟩)] (fun x => decide (x.at_ = p)) PR (fun x W hW => KJ w.heap.size p x W (aa hW K0.out K0.out.lt))).mono ?_
 rintro e w1 ⟨rfl, b1⟩
 have B1 := qh (B0.out.trans (b1.mono B0.out.size))
 have Z1 := qh (aa b1 Z0.out Z0.out.lt)
 clear b1 B0 K0 Z0
 rcases YQ.out with ⟨h1, h2, _⟩ | ⟨j, hj, h1, h2, _, _⟩
 ·have HE := qh (show lQ l p = _ from h2)
  rw [h1]
  clear h1 h2
  go_wp2_with (first
   | ((with_reducible refine bW 12 ?_); refine bu rfl 317 #[] rfl (aX dh).toArray (by kernel_rfl) ?_)
   | ((with_reducible refine ag 4 12 ?_); refine pQ.aj rfl (.tmp 4) (.tmp 12) rfl rfl (w.heap.size + 1) dh rfl rfl 317 _ Z1.out (by rw [HS.out]) ?_; intro w7 o7 b7))
  refine bodyPost_ret (bn rfl _ _ (w.heap.size + 1) 317 _ (0, 0) _ rfl b7 (show Tryz.prog.underlying 317 = some (.struct #[(Tryz.prog.fieldsOf 317)[0]!, (Tryz.prog.fieldsOf 317)[1]!, (Tryz.prog.fieldsOf 317)[2]!, (Tryz.prog.fieldsOf 317)[3]!]) by kernel_rfl) rfl (by rw [pQ.arr]; kernel_rfl)) rfl ⟨?_, B1.out.trans (o7.below (by simp))⟩
  rw [HE.out]
  rfl
 ·have HE := qh (show lQ l p = _ from h2)
  rw [h1]
  obtain ⟨g, o, hA, hg, hc⟩ := (HL.out.below B1.out).at bR hj
  obtain ⟨x, hx⟩ : ∃ x, l[j]'hj = x := ⟨_, rfl⟩
  rw [hx] at hc HE
  subst hA
  have HX := qh hc
  have hi0 : (0 : Int) ≤ (j : Int) := by omega
  have hi1 : (j : Int) < (l.length : Int) := by omega
  have hng : decide ((j : Int) < 0) = false := by simp
  clear h1 h2 hc hg hx
  go_wp2_with (first
   | ((with_reducible refine az 15 ?_); refine jg.af rfl (.tmp 15) rfl g (o + j * 68) rfl x HX.out ?_)
   | ((with_reducible refine ag 4 16 ?_); refine pQ.aj rfl (.tmp 4) (.tmp 16) rfl rfl (w.heap.size + 1) x rfl rfl 317 _ Z1.out (by rw [HS.out]) ?_; intro w7 o7 b7))
  refine bodyPost_ret (bn rfl _ _ (w.heap.size + 1) 317 _ (0, 0) _ rfl b7 (show Tryz.prog.underlying 317 = some (.struct #[(Tryz.prog.fieldsOf 317)[0]!, (Tryz.prog.fieldsOf 317)[1]!, (Tryz.prog.fieldsOf 317)[2]!, (Tryz.prog.fieldsOf 317)[3]!]) by kernel_rfl) rfl (by rw [pQ.arr]; kernel_rfl)) rfl ⟨?_, B1.out.trans (o7.below (by simp))⟩
  rw [HE.out]
  rfl
end
section
open Go.RowKit
structure ru (base g : Nat) (fv v1 v2 : Value) (l q : List aD) (w : World) : Prop where
 blk : ax w g 368 #[v1, v2, fv]
 low : base ≤ g
 o1 : w.ownsRow base 317 68 v1 l.length (cellsOf aX l)
 o2 : w.ownsRow base 317 68 v2 q.length (cellsOf aX q)
 ne : ∀ k, v1.ownBlock = some k → v2.ownBlock ≠ some k
theorem ru.below {base g : Nat} {fv v1 v2 : Value} {l q : List aD} {w w' : World} (h : ru base g fv v1 v2 l q w) (hb : Below w.heap.size w w') : ru base g fv v1 v2 l q w' :=
 ⟨aa hb h.blk h.blk.lt, h.low, own_below h.o1 hb, own_below h.o2 hb, h.ne⟩
structure Fr (D : Nat → Prop) (w W : World) : Prop where
 os : W.os = w.os
 tape : W.tape = w.tape
 output : W.output = w.output
 size : w.heap.size ≤ W.heap.size
 block : ∀ b, b < w.heap.size → ¬ D b → W.heap[b]? = w.heap[b]?
theorem Fr.refl (D : Nat → Prop) (w : World) : Fr D w w := ⟨rfl, rfl, rfl, Nat.le_refl _, fun _ _ _ => rfl⟩
theorem Fr.call {D : Nat → Prop} {w W W' : World} (h : Fr D w W) (hb : Below W.heap.size W W') : Fr D w W' := ⟨hb.os.trans h.os, hb.tape.trans h.tape, hb.output.trans h.output, Nat.le_trans h.size hb.size, fun b hlt hd => (hb.block b (Nat.lt_of_lt_of_le hlt h.size)).trans (h.block b hlt hd)⟩
theorem Fr.alloc {D : Nat → Prop} {w W : World} (h : Fr D w W) (o : Obj) : Fr D w (W.alloc o) := h.call ((Below.refl _ _).alloc (Nat.le_refl _) o)
theorem Fr.only {D : Nat → Prop} {w W W' : World} {g : Nat} (h : Fr D w W) (o : Only [g] W W') (hg : D g ∨ w.heap.size ≤ g) : Fr D w W' := ⟨o.os.trans h.os, o.tape.trans h.tape, o.output.trans h.output, Nat.le_trans h.size (Nat.le_of_eq o.size.symm), fun b hlt hd => (o.block b (fun hm => by
 rw [List.mem_singleton] at hm
 subst hm
 rcases hg with hg | hg
 ·exact hd hg
 ·omega)).trans (h.block b hlt hd)⟩
theorem Fr.grown {D : Nat → Prop} {w W W' : World} {row : Option Nat} (h : Fr D w W) (o : W.grownBy W' row) (hg : ∀ b, row = some b → D b ∨ w.heap.size ≤ b) : Fr D w W' := ⟨o.os.trans h.os, o.tape.trans h.tape, o.output.trans h.output, Nat.le_trans h.size o.size, fun b hlt hd => (o.block b (Nat.lt_of_lt_of_le hlt h.size) (fun e => by
 rcases hg b e.symm with hg | hg
 ·exact hd hg
 ·omega)).trans (h.block b hlt hd)⟩
theorem Fr.below {D : Nat → Prop} {w W : World} {base : Nat} (h : Fr D w W) (hD : ∀ b, D b → base ≤ b) (hB : base ≤ w.heap.size) : Below base w W := ⟨h.os, h.tape, h.output, h.size, fun b hlt => h.block b (by omega) (fun hd => by have := hD b hd; omega)⟩
def Bt (g : Nat) (v1 v2 : Value) (b : Nat) : Prop := b = g ∨ v1.ownBlock = some b ∨ v2.ownBlock = some b
theorem ru.Vq {base g : Nat} {fv v1 v2 : Value} {l q : List aD} {w : World} (h : ru base g fv v1 v2 l q w) : ∀ b, Bt g v1 v2 b → base ≤ b := by
 rintro b (rfl | hb | hb)
 ·exact h.low
 ·exact iG h.o1 b hb
 ·exact iG h.o2 b hb
theorem wV : 317 ≠ 368 := by decide
theorem jb {w : World} {base g n : Nat} {t : TypeId} {cs : Array Value} {v : Value} {xs : List Value} (h : w.ownsRow base 317 68 v n xs) (hg : ax w g t cs) (hne : 317 ≠ t) : ∀ b, v.ownBlock = some b → b ≠ g := fun _ hb e => lJ h hg hne (e ▸ hb)
theorem xq {w : World} {base n : Nat} {e : TypeId} {k : Nat} {v : Value} {xs : List Value} (h : w.ownsRow base e k v n xs) : v.oneCell' = true := by
 obtain ⟨A, c, rfl⟩ := ek h
 rfl
end
section
open Go.RowKit
theorem ym (c : aD) : ∀ l : List aD, iK aD.at_ jO c l = iV l ((l.findIdx? (fun x => jO c.at_ x.at_)).getD l.length) c
 | [] => rfl
 | x :: l => by
  unfold iK
  rw [List.findIdx?_cons]
  cases h : jO c.at_ x.at_ with
  | true => simp [iV]
  | false =>
   rw [ym c l]
   cases h2 : l.findIdx? (fun x => jO c.at_ x.at_) with
   | none => simp [iV]
   | some j => simp [iV]
structure FJ (base g : Nat) (fv v1 v2 : Value) (l q : List aD) (c : aD) (w W : World) : Prop where
 set : ru base g fv v1 v2 l q W
 box : ax W w.heap.size 317 (aX c).toArray
 below : Fr (Bt g v1 v2) w W
def Qx (base g : Nat) (fv v1 v2 : Value) (l q : List aD) (w w' : World) : Prop := ∃ v1', ru base g fv v1' v2 l q w' ∧ Fr (Bt g v1 v2) w w' ∧ (v1'.ownBlock = v1.ownBlock ∨ ∃ k, v1'.ownBlock = some k ∧ w.heap.size ≤ k)
theorem FJ.call {base g : Nat} {fv v1 v2 : Value} {l q : List aD} {c : aD} {w W W' : World} (h : FJ base g fv v1 v2 l q c w W) (hb : Below W.heap.size W W') : FJ base g fv v1 v2 l q c w W' :=
 ⟨h.set.below hb, aa hb h.box h.box.lt, h.below.call hb⟩
theorem K8 (base g : Nat) (fv v1 v2 : Value) (l q : List aD) (c : aD) (w : World) (hs : ru base g fv v1 v2 l q w) (hl : l.length ≤ 1000) :
 Calls Tryz.prog 281 #[.pointer (some ⟨g, 0, none⟩), .agg (aX c).toArray] w fun e w' => e = .returned (.bool (lQ l c.at_).isNone) ∧ Qx base g fv v1 v2 (if (lQ l c.at_).isNone then iK aD.at_ jO c l else l) q w w' := by
 obtain ⟨b0, hb0⟩ : ∃ b, (lQ l c.at_).isNone = b := ⟨_, rfl⟩
 obtain ⟨L0, hL0⟩ : ∃ L, (if (lQ l c.at_).isNone then iK aD.at_ jO c l else l) = L := ⟨_, rfl⟩
 rw [hL0, hb0]
 obtain ⟨A, cc, hv, hrow⟩ := aK.fO bR hs.o1
 subst hv
 obtain ⟨Z, hZ, hz, hzs, hzn⟩ := bB u6 rT
 have Wm := qh hzs
 have HB := qh (show base ≤ w.heap.size by have := hs.low; have := hs.blk.lt; omega)
 have WY := qh hs.blk.lt
 have Ua := qh (j6 hs.o1)
 have HL2 := qh (j6 hs.o2)
 have QK := qh hl
 have P0 := qh (show FJ base g fv (.slice A l.length cc) v2 l q c w (w.alloc (.cells (aX c).toArray 317)) from ⟨hs.below ((Below.refl _ _).alloc (Nat.le_refl _) _), ax.new w 317 _, (Fr.refl _ _).alloc _⟩)
 obtain ⟨f, hf⟩ : ∃ f, lQ l c.at_ = f := ⟨_, rfl⟩
 have HF := qh (show ∀ W, FJ base g fv (.slice A l.length cc) v2 l q c w W → Calls Tryz.prog 317 #[.slice A l.length cc, .agg (aR .u32 c.at_).toArray] W fun e w' => e = .returned (.tuple #[.agg (aX (f.getD dh)).toArray, .bool f.isSome]) ∧ Below W.heap.size W w' from fun W h => by
  obtain ⟨A', c', hv', hr'⟩ := aK.fO bR h.set.o1
  injection hv' with h1 _ h3
  subst h1 h3
  have := Sd A cc l c.at_ W hr' (by have := QK.out; omega)
  rw [hf] at this
  exact this)
 rw [hf] at hb0 hL0
 have HB0 := qh hb0
 have UY := qh hL0
 clear hb0 hL0
 have HPC := qh (ym c l)
 have ZM := qh (yT (fun x => jO c.at_ x.at_) l)
 clear hs hrow hf hl hZ hzs hzn
 go_enter Tryz.func281, Tryz.ntmps281
 go_wp2_with fail
 go_cut [6] from 18 (fun v6 wc => v6 = .bool f.isSome ∧ Hid (FJ base g fv (.slice A l.length cc) v2 l q c w wc))
 case first =>
  have PV := qh (P0.out.call (Below.refl _ _).drew)
  refine wp_region_held_drew (S := fun V => V.cell? ⟨g, 0, none⟩ = some (.slice A l.length cc) ∧ au V w.heap.size 0 (aX c)) (by kernel_rfl) ⟨PV.out.set.blk.cell 0, au.ah PV.out.box⟩ ?_
  intro hS
  generalize (w.alloc (.cells (aX c).toArray 317)).drew = wd at PV hS ⊢
  refine tkp 0 (.pointer (some ⟨g, 0, none⟩)) rfl hS ?_
  go_simp
  refine tkp 1 (.pointer (some ⟨g, 0, none⟩)) rfl hS ?_
  go_simp
  refine tkp 2 (.pointer (some ⟨g, 0, none⟩)) rfl hS ?_
  go_simp
  refine tk 3 (.slice A l.length cc) rfl (bJ (by rfl) 42 (.tmp 11) rfl ⟨g, 0, none⟩ rfl (.slice A l.length cc) Tryz.isAgg42 (fun _ h => h.1)) hS ?_
  go_simp
  refine tkp 4 (.pointer (some ⟨w.heap.size, 0, none⟩)) rfl hS ?_
  go_simp
  refine tk 5 (.agg (aR .u32 c.at_).toArray) rfl (FW.aB (by rfl) (.tmp 13) rfl w.heap.size 0 rfl c.at_ (fun _ h => au.I9 h.2)) hS ?_
  go_simp
  refine rd2 6 10 rfl (fun Kq hK => ?_) rfl (fun Kq hK => ?_)
  ·go_simp
   with_reducible refine (HF.out _ PV.out).mono ?_
   rintro e x1 ⟨rfl, b1⟩
   have rP := qh (PV.out.call (b1))
   have G5 := qh (show w.heap.size + 1 ≤ x1.heap.size from Nat.le_trans PV.out.box.lt b1.size)
   clear PV b1
   have PV := rP
   clear rP
   refine hK.out _ _ ⟨PV.out.set.blk.cell 0, au.ah PV.out.box⟩ (fun hS => ?_)
   clear hK Kq
   go_simp
   refine tkp 7 ((.tuple #[.agg (aX (f.getD dh)).toArray, .bool f.isSome])) rfl hS ?_
   go_simp
   refine tkp 8 (.agg (aX (f.getD dh)).toArray) rfl hS ?_
   go_simp
   refine tkp 9 (.bool f.isSome) rfl hS ?_
   go_simp
   refine rd 10 rfl (fun Kq hK => ?_)
   go_simp
   have KZ := qh (ax.new (x1) 317 Z)
   have rP := qh (PV.out.call ((Below.refl _ _).alloc (Nat.le_refl _) (.cells Z 317)))
   clear PV
   have PV := rP
   clear rP
   refine hK.out _ _ ⟨PV.out.set.blk.cell 0, au.ah PV.out.box⟩ (fun hS => ?_)
   clear hK Kq
   go_simp
   refine rd 11 rfl (fun Kq hK => ?_)
   refine pQ.fu rfl (.tmp 5) (.tmp 16) rfl rfl (x1.heap.size) 0 (f.getD dh) rfl rfl 317 Z.toList (by simpa using KZ.out) (by rw [Array.length_toList, Wm.out]; decide) ?_
   intro w4 o4 b4
   have B4 := qh (show Below (x1.heap.size) _ w4 from o4.below (by simp))
   have rP := qh (show FJ base g fv (.slice A l.length cc) v2 l q c w w4 from ⟨⟨o4.blk PV.out.set.blk (by have h1 := WY.out; have h2 := G5.out; intro h; rw [List.mem_singleton] at h; omega), PV.out.set.low, eP PV.out.set.o1 (fun b hb _ => o4.block b (by have h1 := Ua.out b hb; have h2 := G5.out; intro h; rw [List.mem_singleton] at h; omega)), eP PV.out.set.o2 (fun b hb _ => o4.block b (by have h1 := HL2.out b hb; have h2 := G5.out; intro h; rw [List.mem_singleton] at h; omega)), PV.out.set.ne⟩,
    o4.blk PV.out.box (by have h2 := G5.out; intro h; rw [List.mem_singleton] at h; omega), PV.out.below.only o4 (.inr (by have h2 := G5.out; omega))⟩)
   clear PV o4 b4 KZ B4
   have PV := rP
   clear rP
   refine hK.out _ _ ⟨PV.out.set.blk.cell 0, au.ah PV.out.box⟩ (fun hS => ?_)
   clear hK Kq
   go_simp
   refine rd 12 rfl (fun Kq hK => ?_)
   go_simp
   refine hK.out _ _ ⟨PV.out.set.blk.cell 0, au.ah PV.out.box⟩ (fun hS => ?_)
   clear hK Kq
   go_simp
   refine wpAnyH_done (by kernel_rfl) ?_ _
   go_wp2_with fail
   go_meet
   exact ⟨rfl, PV⟩
  ·have G5 := qh (show w.heap.size + 1 ≤ wd.heap.size from PV.out.box.lt)
   go_simp
   have KZ := qh (ax.new (wd) 317 Z)
   have rP := qh (PV.out.call ((Below.refl _ _).alloc (Nat.le_refl _) (.cells Z 317)))
   clear PV
   have PV := rP
   clear rP
   refine hK.out _ _ ⟨PV.out.set.blk.cell 0, au.ah PV.out.box⟩ (fun hS => ?_)
   clear hK Kq
   go_simp
   refine rd 6 rfl (fun Kq hK => ?_)
   go_simp
   with_reducible refine (HF.out _ PV.out).mono ?_
   rintro e x1 ⟨rfl, b1⟩
   have rP := qh (PV.out.call (b1))
   have uY := qh (aa b1 KZ.out KZ.out.lt)
   clear KZ
   have KZ := uY
   clear uY PV b1
   have PV := rP
   clear rP
   refine hK.out _ _ ⟨PV.out.set.blk.cell 0, au.ah PV.out.box⟩ (fun hS => ?_)
   clear hK Kq
   go_simp
   refine tkp 7 ((.tuple #[.agg (aX (f.getD dh)).toArray, .bool f.isSome])) rfl hS ?_
   go_simp
   refine tkp 8 (.agg (aX (f.getD dh)).toArray) rfl hS ?_
   go_simp
   refine tkp 9 (.bool f.isSome) rfl hS ?_
   go_simp
   refine rd 11 rfl (fun Kq hK => ?_)
   refine pQ.fu rfl (.tmp 5) (.tmp 16) rfl rfl ((wd).heap.size) 0 (f.getD dh) rfl rfl 317 Z.toList (by simpa using KZ.out) (by rw [Array.length_toList, Wm.out]; decide) ?_
   intro w4 o4 b4
   have B4 := qh (show Below ((wd).heap.size) _ w4 from o4.below (by simp))
   have rP := qh (show FJ base g fv (.slice A l.length cc) v2 l q c w w4 from ⟨⟨o4.blk PV.out.set.blk (by have h1 := WY.out; have h2 := G5.out; intro h; rw [List.mem_singleton] at h; omega), PV.out.set.low, eP PV.out.set.o1 (fun b hb _ => o4.block b (by have h1 := Ua.out b hb; have h2 := G5.out; intro h; rw [List.mem_singleton] at h; omega)), eP PV.out.set.o2 (fun b hb _ => o4.block b (by have h1 := HL2.out b hb; have h2 := G5.out; intro h; rw [List.mem_singleton] at h; omega)), PV.out.set.ne⟩,
    o4.blk PV.out.box (by have h2 := G5.out; intro h; rw [List.mem_singleton] at h; omega), PV.out.below.only o4 (.inr (by have h2 := G5.out; omega))⟩)
   clear PV o4 b4 KZ B4
   have PV := rP
   clear rP
   refine hK.out _ _ ⟨PV.out.set.blk.cell 0, au.ah PV.out.box⟩ (fun hS => ?_)
   clear hK Kq
   go_simp
   refine rd 12 rfl (fun Kq hK => ?_)
   go_simp
   refine hK.out _ _ ⟨PV.out.set.blk.cell 0, au.ah PV.out.box⟩ (fun hS => ?_)
   clear hK Kq
   go_simp
   refine wpAnyH_done (by kernel_rfl) ?_ _
   go_wp2_with fail
   go_meet
   exact ⟨rfl, PV⟩
 case rest =>
  obtain ⟨rfl, PC⟩ := hcut
  clear P0 HF hz Wm
  cases f with
  | some d =>
   go_wp2_with fail
   go_ret
   exact ⟨congrArg (fun b => Ending.returned (Value.bool b)) HB0.out, UY.out ▸ ⟨_, PC.out.set, PC.out.below, .inl rfl⟩⟩
  | none =>
   have k1 : wc.cell? ⟨g, 0, none⟩ = some (.slice A l.length cc) := PC.out.set.blk.cell 0
   obtain ⟨i, hi⟩ : ∃ i, (l.findIdx? (fun x => jO c.at_ x.at_)).getD l.length = i := ⟨_, rfl⟩
   have T9 := qh (show iK aD.at_ jO c l = iV l i c by rw [HPC.out, hi])
   have HI := qh (show i ≤ l.length by
    rcases ZM.out with ⟨_, _, h⟩ | ⟨j, hj, _, _, _, h⟩
    ·rw [h] at hi; simp at hi; omega
    ·rw [h] at hi; simp at hi; omega)
   have HC := qh (show Calls Tryz.prog 313 #[.slice A l.length cc, .func (.func 318) #[] #[.pointer (some ⟨w.heap.size, 0, none⟩)]] wc fun e w' => e = .returned (.int .i64 (kS (fun x => jO c.at_ x.at_) l)) ∧ Below wc.heap.size wc w' from by
    obtain ⟨A', c', hv', hr'⟩ := aK.fO bR PC.out.set.o1
    injection hv' with h1 _ h3
    subst h1 h3
    exact qj A cc l wc.heap.size wc (by have := QK.out; omega) (Nat.le_refl _) hr' 318 #[.pointer (some ⟨w.heap.size, 0, none⟩)] (fun x => jO c.at_ x.at_) PO (fun x W hW => Ni w.heap.size c x W (aa hW PC.out.box PC.out.box.lt)))
   clear HPC
   go_wp2_with fail
   refine HC.out.mono ?_
   rintro e w1 ⟨rfl, b1⟩
   have PK := qh (PC.out.call b1)
   have k2 : w1.cell? ⟨g, 0, none⟩ = some (.slice A l.length cc) := PK.out.set.blk.cell 0
   clear PC b1 HC k1
   rcases ZM.out with ⟨h1, _, h⟩ | ⟨j, hj, h1, _, _, h⟩
   ·have hil : i = l.length := by rw [h] at hi; simpa using hi.symm
    subst hil
    rw [h1]
    clear h1 h hi ZM
    go_wp2_with fail
    clear k2
    have PV := qh (PK.out.call (Below.refl _ _).drew)
    clear PK
    refine wp_region_held_drew (S := fun V => au V w.heap.size 0 (aX c)) (by kernel_rfl) (au.ah PV.out.box) ?_
    intro hS
    generalize w1.drew = wd at PV hS ⊢
    refine tkp 0 (.pointer (some ⟨g, 0, none⟩)) rfl hS ?_
    go_simp
    refine tkp 1 (.pointer (some ⟨g, 0, none⟩)) rfl hS ?_
    go_simp
    refine tkp 2 (.pointer (some ⟨g, 0, none⟩)) rfl hS ?_
    go_simp
    refine tkp 3 (.pointer (some ⟨g, 0, none⟩)) rfl hS ?_
    go_simp
    refine tkp 5 (.int .i64 l.length) rfl hS ?_
    go_simp
    refine tk 6 (.agg (aX c).toArray) rfl (pQ.aB (by rfl) (.tmp 3) rfl w.heap.size 0 rfl c (fun _ h => h)) hS ?_
    go_simp
    refine rd2 4 7 rfl (fun Kq hK => ?_) rfl (fun Kq hK => ?_)
    ·refine iQ (by rfl) 42 (.tmp 35) rfl ⟨g, 0, none⟩ rfl (.slice A l.length cc) Tryz.isAgg42 (PV.out.set.blk.cell 0) ?_
     refine hK.out _ _ (au.ah PV.out.box) (fun hS => ?_)
     clear hK Kq
     go_simp
     refine rd 7 rfl (fun Kq hK => ?_)
     refine jg.gN rfl Tx 1 _ rfl [c] rfl (by omega) (by omega) (by kernel_rfl) ?_
     have L1 := qh (ax.new (wd) 317 (cellsOf aX [c]).toArray)
     have QJ := qh (show (.slice A l.length cc : Value).ownBlock ≠ some wd.heap.size from fun e => by have := j6 PV.out.set.o1 _ e; omega)
     have rP := qh (PV.out.call ((Below.refl _ _).alloc (Nat.le_refl _) (.cells (cellsOf aX [c]).toArray 317)))
     clear PV
     have PV := rP
     clear rP
     refine hK.out _ _ (au.ah PV.out.box) (fun hS => ?_)
     clear hK Kq
     go_simp
     refine rd 8 rfl (fun Kq hK => ?_)
     go_simp
     with_reducible refine (mQ base (.slice A l.length cc) l l.length c wd.heap.size _ PV.out.set.o1 HI.out (by have := QK.out; omega) L1.out QJ.out (Nat.le_trans HB.out PV.out.below.size)).mono ?_
     rintro e w6 ⟨v6, rfl, r6, g6, q6⟩
     have CW := qh (PV.out.set.blk.grown g6 (fun e => jb PV.out.set.o1 PV.out.set.blk wV _ e.symm rfl))
     have Im := qh (PV.out.box.grown g6 (fun e => by have := Ua.out _ e.symm; omega))
     have Il := qh (eP PV.out.set.o2 (fun b hb hlt => g6.block b hlt (fun e => PV.out.set.ne b e.symm hb)))
     have QD := qh (show ∀ k, v6.ownBlock = some k → v2.ownBlock ≠ some k from fun k hk e => by
      rcases q6 with q6 | q6
      ·rw [q6] at hk; exact PV.out.set.ne k hk e
      ·rw [q6] at hk; have h1 := j6 PV.out.set.o2 k e; have := Option.some.inj hk; omega)
     have QO := qh (PV.out.below.grown g6 (fun b hb => .inl (.inr (.inl hb))))
     have Wl := qh (show v6.ownBlock = (.slice A l.length cc : Value).ownBlock ∨ ∃ k, v6.ownBlock = some k ∧ w.heap.size ≤ k from q6.imp id fun e => ⟨_, e, PV.out.below.size⟩)
     have CS := qh r6
     have LOW := qh PV.out.set.low
     refine hK.out _ _ (au.ah Im.out) (fun hS => ?_)
     clear hK Kq r6 g6 q6 PV L1 QJ
     go_simp
     refine tkp 9 (.pointer (some ⟨g, 0, none⟩)) rfl hS ?_
     go_simp
     refine tkp 10 (.pointer (some ⟨g, 0, none⟩)) rfl hS ?_
     go_simp
     refine rd 11 rfl (fun Kq hK => ?_)
     refine dU rfl 42 (.tmp 42) (.tmp 40) rfl rfl g 0 v6 rfl rfl (xq CS.out) 368 _ CW.out (by simp) (by kernel_rfl) ?_
     intro w7 o7 b7
     have SV := qh (show ru base g fv v6 v2 (iV l l.length c) q w7 from ⟨b7, LOW.out, eP CS.out (fun b hb _ => o7.block b (by have := jb CS.out CW.out wV b hb; simpa using this)), eP Il.out (fun b hb _ => o7.block b (by have := jb Il.out CW.out wV b hb; simpa using this)), QD.out⟩)
     have B7 := qh (QO.out.only o7 (.inl (.inl rfl)))
     refine hK.out _ _ (au.ah (o7.blk Im.out (by have := WY.out; intro h; rw [List.mem_singleton] at h; omega))) (fun hS => ?_)
     clear hK Kq o7 b7 CW Im CS Il QO QD
     refine wpAnyH_done (by kernel_rfl) ?_ _
     clear hS
     go_wp2_with fail
     go_ret
     exact ⟨congrArg (fun b => Ending.returned (Value.bool b)) HB0.out, UY.out ▸ (show Qx base g fv (.slice A l.length cc) v2 (iK aD.at_ jO c l) q w w7 from T9.out.symm ▸ ⟨_, SV.out, B7.out, Wl.out⟩)⟩
    ·refine jg.gN rfl Tx 1 _ rfl [c] rfl (by omega) (by omega) (by kernel_rfl) ?_
     have L1 := qh (ax.new (wd) 317 (cellsOf aX [c]).toArray)
     have QJ := qh (show (.slice A l.length cc : Value).ownBlock ≠ some wd.heap.size from fun e => by have := j6 PV.out.set.o1 _ e; omega)
     have rP := qh (PV.out.call ((Below.refl _ _).alloc (Nat.le_refl _) (.cells (cellsOf aX [c]).toArray 317)))
     clear PV
     have PV := rP
     clear rP
     refine hK.out _ _ (au.ah PV.out.box) (fun hS => ?_)
     clear hK Kq
     go_simp
     refine rd 4 rfl (fun Kq hK => ?_)
     refine iQ (by rfl) 42 (.tmp 35) rfl ⟨g, 0, none⟩ rfl (.slice A l.length cc) Tryz.isAgg42 (PV.out.set.blk.cell 0) ?_
     refine hK.out _ _ (au.ah PV.out.box) (fun hS => ?_)
     clear hK Kq
     go_simp
     refine rd 8 rfl (fun Kq hK => ?_)
     go_simp
     with_reducible refine (mQ base (.slice A l.length cc) l l.length c wd.heap.size _ PV.out.set.o1 HI.out (by have := QK.out; omega) L1.out QJ.out (Nat.le_trans HB.out PV.out.below.size)).mono ?_
     rintro e w6 ⟨v6, rfl, r6, g6, q6⟩
     have CW := qh (PV.out.set.blk.grown g6 (fun e => jb PV.out.set.o1 PV.out.set.blk wV _ e.symm rfl))
     have Im := qh (PV.out.box.grown g6 (fun e => by have := Ua.out _ e.symm; omega))
     have Il := qh (eP PV.out.set.o2 (fun b hb hlt => g6.block b hlt (fun e => PV.out.set.ne b e.symm hb)))
     have QD := qh (show ∀ k, v6.ownBlock = some k → v2.ownBlock ≠ some k from fun k hk e => by
      rcases q6 with q6 | q6
      ·rw [q6] at hk; exact PV.out.set.ne k hk e
      ·rw [q6] at hk; have h1 := j6 PV.out.set.o2 k e; have := Option.some.inj hk; omega)
     have QO := qh (PV.out.below.grown g6 (fun b hb => .inl (.inr (.inl hb))))
     have Wl := qh (show v6.ownBlock = (.slice A l.length cc : Value).ownBlock ∨ ∃ k, v6.ownBlock = some k ∧ w.heap.size ≤ k from q6.imp id fun e => ⟨_, e, PV.out.below.size⟩)
     have CS := qh r6
     have LOW := qh PV.out.set.low
     refine hK.out _ _ (au.ah Im.out) (fun hS => ?_)
     clear hK Kq r6 g6 q6 PV L1 QJ
     go_simp
     refine tkp 9 (.pointer (some ⟨g, 0, none⟩)) rfl hS ?_
     go_simp
     refine tkp 10 (.pointer (some ⟨g, 0, none⟩)) rfl hS ?_
     go_simp
     refine rd 11 rfl (fun Kq hK => ?_)
     refine dU rfl 42 (.tmp 42) (.tmp 40) rfl rfl g 0 v6 rfl rfl (xq CS.out) 368 _ CW.out (by simp) (by kernel_rfl) ?_
     intro w7 o7 b7
     have SV := qh (show ru base g fv v6 v2 (iV l l.length c) q w7 from ⟨b7, LOW.out, eP CS.out (fun b hb _ => o7.block b (by have := jb CS.out CW.out wV b hb; simpa using this)), eP Il.out (fun b hb _ => o7.block b (by have := jb Il.out CW.out wV b hb; simpa using this)), QD.out⟩)
     have B7 := qh (QO.out.only o7 (.inl (.inl rfl)))
     refine hK.out _ _ (au.ah (o7.blk Im.out (by have := WY.out; intro h; rw [List.mem_singleton] at h; omega))) (fun hS => ?_)
     clear hK Kq o7 b7 CW Im CS Il QO QD
     refine wpAnyH_done (by kernel_rfl) ?_ _
     clear hS
     go_wp2_with fail
     go_ret
     exact ⟨congrArg (fun b => Ending.returned (Value.bool b)) HB0.out, UY.out ▸ (show Qx base g fv (.slice A l.length cc) v2 (iK aD.at_ jO c l) q w w7 from T9.out.symm ▸ ⟨_, SV.out, B7.out, Wl.out⟩)⟩
   ·have hil : i = j := by rw [h] at hi; simpa using hi.symm
    subst hil
    rw [h1]
    clear h1 h hi ZM
    have hng : decide ((i : Int) < 0) = false := by simp
    go_wp2_with fail
    clear k2 hng
    have PV := qh (PK.out.call (Below.refl _ _).drew)
    clear PK
    refine wp_region_held_drew (S := fun V => au V w.heap.size 0 (aX c)) (by kernel_rfl) (au.ah PV.out.box) ?_
    intro hS
    generalize w1.drew = wd at PV hS ⊢
    refine tkp 0 (.pointer (some ⟨g, 0, none⟩)) rfl hS ?_
    go_simp
    refine tkp 1 (.pointer (some ⟨g, 0, none⟩)) rfl hS ?_
    go_simp
    refine tkp 2 (.pointer (some ⟨g, 0, none⟩)) rfl hS ?_
    go_simp
    refine tkp 3 (.pointer (some ⟨g, 0, none⟩)) rfl hS ?_
    go_simp
    refine tkp 5 (.int .i64 i) rfl hS ?_
    go_simp
    refine tk 6 (.agg (aX c).toArray) rfl (pQ.aB (by rfl) (.tmp 3) rfl w.heap.size 0 rfl c (fun _ h => h)) hS ?_
    go_simp
    refine rd2 4 7 rfl (fun Kq hK => ?_) rfl (fun Kq hK => ?_)
    ·refine iQ (by rfl) 42 (.tmp 35) rfl ⟨g, 0, none⟩ rfl (.slice A l.length cc) Tryz.isAgg42 (PV.out.set.blk.cell 0) ?_
     refine hK.out _ _ (au.ah PV.out.box) (fun hS => ?_)
     clear hK Kq
     go_simp
     refine rd 7 rfl (fun Kq hK => ?_)
     refine jg.gN rfl Tx 1 _ rfl [c] rfl (by omega) (by omega) (by kernel_rfl) ?_
     have L1 := qh (ax.new (wd) 317 (cellsOf aX [c]).toArray)
     have QJ := qh (show (.slice A l.length cc : Value).ownBlock ≠ some wd.heap.size from fun e => by have := j6 PV.out.set.o1 _ e; omega)
     have rP := qh (PV.out.call ((Below.refl _ _).alloc (Nat.le_refl _) (.cells (cellsOf aX [c]).toArray 317)))
     clear PV
     have PV := rP
     clear rP
     refine hK.out _ _ (au.ah PV.out.box) (fun hS => ?_)
     clear hK Kq
     go_simp
     refine rd 8 rfl (fun Kq hK => ?_)
     go_simp
     with_reducible refine (mQ base (.slice A l.length cc) l i c wd.heap.size _ PV.out.set.o1 HI.out (by have := QK.out; omega) L1.out QJ.out (Nat.le_trans HB.out PV.out.below.size)).mono ?_
     rintro e w6 ⟨v6, rfl, r6, g6, q6⟩
     have CW := qh (PV.out.set.blk.grown g6 (fun e => jb PV.out.set.o1 PV.out.set.blk wV _ e.symm rfl))
     have Im := qh (PV.out.box.grown g6 (fun e => by have := Ua.out _ e.symm; omega))
     have Il := qh (eP PV.out.set.o2 (fun b hb hlt => g6.block b hlt (fun e => PV.out.set.ne b e.symm hb)))
     have QD := qh (show ∀ k, v6.ownBlock = some k → v2.ownBlock ≠ some k from fun k hk e => by
      rcases q6 with q6 | q6
      ·rw [q6] at hk; exact PV.out.set.ne k hk e
      ·rw [q6] at hk; have h1 := j6 PV.out.set.o2 k e; have := Option.some.inj hk; omega)
     have QO := qh (PV.out.below.grown g6 (fun b hb => .inl (.inr (.inl hb))))
     have Wl := qh (show v6.ownBlock = (.slice A l.length cc : Value).ownBlock ∨ ∃ k, v6.ownBlock = some k ∧ w.heap.size ≤ k from q6.imp id fun e => ⟨_, e, PV.out.below.size⟩)
     have CS := qh r6
     have LOW := qh PV.out.set.low
     refine hK.out _ _ (au.ah Im.out) (fun hS => ?_)
     clear hK Kq r6 g6 q6 PV L1 QJ
     go_simp
     refine tkp 9 (.pointer (some ⟨g, 0, none⟩)) rfl hS ?_
     go_simp
     refine tkp 10 (.pointer (some ⟨g, 0, none⟩)) rfl hS ?_
     go_simp
     refine rd 11 rfl (fun Kq hK => ?_)
     refine dU rfl 42 (.tmp 42) (.tmp 40) rfl rfl g 0 v6 rfl rfl (xq CS.out) 368 _ CW.out (by simp) (by kernel_rfl) ?_
     intro w7 o7 b7
     have SV := qh (show ru base g fv v6 v2 (iV l i c) q w7 from ⟨b7, LOW.out, eP CS.out (fun b hb _ => o7.block b (by have := jb CS.out CW.out wV b hb; simpa using this)), eP Il.out (fun b hb _ => o7.block b (by have := jb Il.out CW.out wV b hb; simpa using this)), QD.out⟩)
     have B7 := qh (QO.out.only o7 (.inl (.inl rfl)))
     refine hK.out _ _ (au.ah (o7.blk Im.out (by have := WY.out; intro h; rw [List.mem_singleton] at h; omega))) (fun hS => ?_)
     clear hK Kq o7 b7 CW Im CS Il QO QD
     refine wpAnyH_done (by kernel_rfl) ?_ _
     clear hS
     go_wp2_with fail
     go_ret
     exact ⟨congrArg (fun b => Ending.returned (Value.bool b)) HB0.out, UY.out ▸ (show Qx base g fv (.slice A l.length cc) v2 (iK aD.at_ jO c l) q w w7 from T9.out.symm ▸ ⟨_, SV.out, B7.out, Wl.out⟩)⟩
    ·refine jg.gN rfl Tx 1 _ rfl [c] rfl (by omega) (by omega) (by kernel_rfl) ?_
     have L1 := qh (ax.new (wd) 317 (cellsOf aX [c]).toArray)
     have QJ := qh (show (.slice A l.length cc : Value).ownBlock ≠ some wd.heap.size from fun e => by have := j6 PV.out.set.o1 _ e; omega)
     have rP := qh (PV.out.call ((Below.refl _ _).alloc (Nat.le_refl _) (.cells (cellsOf aX [c]).toArray 317)))
     clear PV
     have PV := rP
     clear rP
     refine hK.out _ _ (au.ah PV.out.box) (fun hS => ?_)
     clear hK Kq
     go_simp
     refine rd 4 rfl (fun Kq hK => ?_)
     refine iQ (by rfl) 42 (.tmp 35) rfl ⟨g, 0, none⟩ rfl (.slice A l.length cc) Tryz.isAgg42 (PV.out.set.blk.cell 0) ?_
     refine hK.out _ _ (au.ah PV.out.box) (fun hS => ?_)
     clear hK Kq
     go_simp
     refine rd 8 rfl (fun Kq hK => ?_)
     go_simp
     with_reducible refine (mQ base (.slice A l.length cc) l i c wd.heap.size _ PV.out.set.o1 HI.out (by have := QK.out; omega) L1.out QJ.out (Nat.le_trans HB.out PV.out.below.size)).mono ?_
     rintro e w6 ⟨v6, rfl, r6, g6, q6⟩
     have CW := qh (PV.out.set.blk.grown g6 (fun e => jb PV.out.set.o1 PV.out.set.blk wV _ e.symm rfl))
     have Im := qh (PV.out.box.grown g6 (fun e => by have := Ua.out _ e.symm; omega))
     have Il := qh (eP PV.out.set.o2 (fun b hb hlt => g6.block b hlt (fun e => PV.out.set.ne b e.symm hb)))
     have QD := qh (show ∀ k, v6.ownBlock = some k → v2.ownBlock ≠ some k from fun k hk e => by
      rcases q6 with q6 | q6
      ·rw [q6] at hk; exact PV.out.set.ne k hk e
      ·rw [q6] at hk; have h1 := j6 PV.out.set.o2 k e; have := Option.some.inj hk; omega)
     have QO := qh (PV.out.below.grown g6 (fun b hb => .inl (.inr (.inl hb))))
     have Wl := qh (show v6.ownBlock = (.slice A l.length cc : Value).ownBlock ∨ ∃ k, v6.ownBlock = some k ∧ w.heap.size ≤ k from q6.imp id fun e => ⟨_, e, PV.out.below.size⟩)
     have CS := qh r6
     have LOW := qh PV.out.set.low
     refine hK.out _ _ (au.ah Im.out) (fun hS => ?_)
     clear hK Kq r6 g6 q6 PV L1 QJ
     go_simp
     refine tkp 9 (.pointer (some ⟨g, 0, none⟩)) rfl hS ?_
     go_simp
     refine tkp 10 (.pointer (some ⟨g, 0, none⟩)) rfl hS ?_
     go_simp
     refine rd 11 rfl (fun Kq hK => ?_)
     refine dU rfl 42 (.tmp 42) (.tmp 40) rfl rfl g 0 v6 rfl rfl (xq CS.out) 368 _ CW.out (by simp) (by kernel_rfl) ?_
     intro w7 o7 b7
     have SV := qh (show ru base g fv v6 v2 (iV l i c) q w7 from ⟨b7, LOW.out, eP CS.out (fun b hb _ => o7.block b (by have := jb CS.out CW.out wV b hb; simpa using this)), eP Il.out (fun b hb _ => o7.block b (by have := jb Il.out CW.out wV b hb; simpa using this)), QD.out⟩)
     have B7 := qh (QO.out.only o7 (.inl (.inl rfl)))
     refine hK.out _ _ (au.ah (o7.blk Im.out (by have := WY.out; intro h; rw [List.mem_singleton] at h; omega))) (fun hS => ?_)
     clear hK Kq o7 b7 CW Im CS Il QO QD
     refine wpAnyH_done (by kernel_rfl) ?_ _
     clear hS
     go_wp2_with fail
     go_ret
     exact ⟨congrArg (fun b => Ending.returned (Value.bool b)) HB0.out, UY.out ▸ (show Qx base g fv (.slice A l.length cc) v2 (iK aD.at_ jO c l) q w w7 from T9.out.symm ▸ ⟨_, SV.out, B7.out, Wl.out⟩)⟩
end
section
open Go.RowKit
def pM (K : List Nat) (base g : Nat) (fv : Value) (l q : List aD) (w : World) : Prop := ∃ v1 v2, ru base g fv v1 v2 l q w ∧ ∀ b ∈ K, b < w.heap.size ∧ ¬ Bt g v1 v2 b
def Kept (K : List Nat) (w w' : World) : Prop := ∀ b ∈ K, b < w.heap.size → w'.heap[b]? = w.heap[b]?
theorem Kept.refl (K : List Nat) (w : World) : Kept K w w := fun _ _ _ => rfl
theorem Kept.trans {K : List Nat} {a b c : World} (h : Kept K a b) (k : Kept K b c) (hs : a.heap.size ≤ b.heap.size) : Kept K a c := fun x hx hl => (k x hx (by omega)).trans (h x hx hl)
theorem Kept.of_below {K : List Nat} {a b : World} (h : Below a.heap.size a b) : Kept K a b := fun x _ hl => h.block x hl
theorem pM.below {K : List Nat} {base g : Nat} {fv : Value} {l q : List aD} {w w' : World} (h : pM K base g fv l q w) (hb : Below w.heap.size w w') : pM K base g fv l q w' := by
 obtain ⟨v1, v2, h, k⟩ := h
 exact ⟨v1, v2, h.below hb, fun b hB => ⟨Nat.lt_of_lt_of_le (k b hB).1 hb.size, (k b hB).2⟩⟩
theorem pM.TI {K : List Nat} {base g : Nat} {fv : Value} {l q : List aD} {w : World} (h : pM K base g fv l q w) : base ≤ w.heap.size := by
 obtain ⟨v1, v2, h, k⟩ := h
 have := h.low
 have := h.blk.lt
 omega
theorem JE {K : List Nat} {base g : Nat} {fv v1 v2 v1' v2' : Value} {l q : List aD} {w w' : World} (h' : ru base g fv v1' v2' l q w') (f : Fr (Bt g v1 v2) w w') (k : ∀ b ∈ K, b < w.heap.size ∧ ¬ Bt g v1 v2 b)
 (h1 : v1'.ownBlock = v1.ownBlock ∨ ∃ k, v1'.ownBlock = some k ∧ w.heap.size ≤ k) (h2 : v2'.ownBlock = v2.ownBlock ∨ ∃ k, v2'.ownBlock = some k ∧ w.heap.size ≤ k) : pM K base g fv l q w' ∧ Kept K w w' := by
 refine ⟨⟨v1', v2', h', fun b hb => ⟨Nat.lt_of_lt_of_le (k b hb).1 f.size, ?_⟩⟩, fun b hb hl => f.block b hl (k b hb).2⟩
 have kb := k b hb
 rintro (rfl | hx | hx)
 ·exact kb.2 (.inl rfl)
 ·rcases h1 with h1 | ⟨j, h1, hj⟩
  ·exact kb.2 (.inr (.inl (h1 ▸ hx)))
  ·rw [h1] at hx
   have := Option.some.inj hx
   omega
 ·rcases h2 with h2 | ⟨j, h2, hj⟩
  ·exact kb.2 (.inr (.inr (h2 ▸ hx)))
  ·rw [h2] at hx
   have := Option.some.inj hx
   omega
def RU (c : aD) (l : List aD) : List aD := if (lQ l c.at_).isNone then iK aD.at_ jO c l else l
theorem Xr (K : List Nat) (base g : Nat) (fv : Value) (l q : List aD) (c : aD) (w : World) (hs : pM K base g fv l q w) (hl : l.length ≤ 1000) :
 Calls Tryz.prog 281 #[.pointer (some ⟨g, 0, none⟩), .agg (aX c).toArray] w fun e w' => e = .returned (.bool (lQ l c.at_).isNone) ∧ pM K base g fv (RU c l) q w' ∧ Below base w w' ∧ Kept K w w' := by
 obtain ⟨v1, v2, h, k⟩ := hs
 have hB : base ≤ w.heap.size := by have := h.low; have := h.blk.lt; omega
 refine (K8 base g fv v1 v2 l q c w h hl).mono ?_
 rintro e w' ⟨rfl, v1', s, f, e1⟩
 have := JE s f k e1 (.inl rfl)
 exact ⟨rfl, this.1, f.below h.Vq hB, this.2⟩
theorem Jk : ((Tryz.prog.info? 142).bind (·.zero)) = some (.agg (aR .u32 (ai, ⟨0, by decide⟩)).toArray) := by kernel_rfl
theorem C9 : (aR .u32 ((ai, ⟨0, by decide⟩) : FK)).toArray.size = 32 + 1 := by rw [List.size_toArray, fT]
theorem TU (K : List Nat) (base g : Nat) (fv : Value) (l q : List aD) (ps : List aD) (A : Option Addr) (c : Nat) (w : World) (hs : pM K base g fv l q w) (hl : l.length ≤ 400) (hrow : ∀ W, Below base w W → Kept K w W → aK aX 68 W W.heap.size A c ps) (hps : ps.length ≤ 400) :
 Calls Tryz.prog 279 #[.slice A ps.length c, .func (.func 281) #[.pointer (some ⟨g, 0, none⟩)] #[]] w fun e w' => e = .returned (.bool (iX aD.at_ jO l ps).isSome) ∧ (∃ l', pM K base g fv l' q w' ∧ ∀ x, iX aD.at_ jO l ps = some x → x = l') ∧ Below base w w' ∧ Kept K w w' := by
 obtain ⟨Z, hZ, hz, hzs, hzn⟩ := bB u6 rT
 have Wm := qh hzs
 have HS := qh hs
 have HR := qh hrow
 have HB := qh hs.TI
 have HT := qh (show ∀ (l' : List aD) (x : aD) (W : World), pM K base g fv l' q W → l'.length ≤ 1000 → Calls Tryz.prog 281 #[.pointer (some ⟨g, 0, none⟩), .agg (aX x).toArray] W fun e w' => e = .returned (.bool (lQ l' x.at_).isNone) ∧ pM K base g fv (RU x l') q w' ∧ Below base W w' ∧ Kept K W w' from
  fun l' x W h1 h2 => Xr K base g fv l' q x W h1 h2)
 have hm0 : ps.length ≤ 9223372036854775807 := by omega
 clear hs hrow hZ hzs
 go_enter Tryz.func279, Tryz.ntmps279
 go_wp2_with fail
 go_loopw [9] (fun si wr => ∃ (j : Nat) (l' : List aD), si = .int .i64 j ∧ j ≤ ps.length ∧ Hid (iX aD.at_ jO l ps = iX aD.at_ jO l' (ps.drop j)) ∧ Hid (l'.length ≤ 400 + j) ∧ Hid (pM K base g fv l' q wr) ∧ Hid (Below base w wr) ∧ Hid (Kept K w wr)) (fun si _ => ps.length - (intOf si).toNat)
 case atStart => exact ⟨0, l, rfl, Nat.zero_le _, qh rfl, qh (by omega), HS, qh ((Below.refl _ _).mono HB.out), qh (Kept.refl _ _)⟩
 case round =>
  obtain ⟨j, l', rfl, hj, HQ, zB, HSK, WV, ZL⟩ := hrel
  by_cases hlt : j < ps.length
  ·have hd : decide ((j : Int) < (ps.length : Int)) = true := by simp; omega
   have hi0 : (0 : Int) ≤ (j : Int) := by omega
   have hi1 : (j : Int) < (ps.length : Int) := by omega
   obtain ⟨gp, op, hA, XZ, hcp⟩ := (HR.out wr WV.out ZL.out).at (bR) hlt
   obtain ⟨x, hx⟩ : ∃ x, ps[j]'hlt = x := ⟨_, rfl⟩
   rw [hx] at hcp
   subst hA
   have HX := qh hcp
   have HXG := qh XZ
   have HDX := qh (show ps.drop j = x :: ps.drop (j + 1) by rw [← hx]; exact List.drop_eq_getElem_cons hlt)
   have HJ := qh (And.intro hj hlt)
   clear hx hcp XZ
   go_wp2_with (first
    | ((with_reducible refine az 11 ?_); refine jg.af rfl (.tmp 11) rfl gp (op + j * 68) rfl x (fun i v hi => (World.cell?_alloc_lt wr _ _ HXG.out).trans (HX.out i v hi)) ?_)
    | ((with_reducible refine az 11 ?_); refine jg.af rfl (.tmp 11) rfl gp (op + j * 68) rfl x HX.out ?_)
    | ((with_reducible refine ag 6 12 ?_); refine pQ.aj rfl (.tmp 6) (.tmp 12) rfl rfl wr.heap.size x rfl rfl _ _ (ax.new wr _ Z) (by rw [Wm.out]) ?_; intro w2 o2 b2
       have K2 := qh b2
       have B2 := qh (show Below wr.heap.size wr w2 from ((Below.refl _ _).alloc (Nat.le_refl _) _).trans (o2.below (by simp)))
       have S2 := qh (HSK.out.below B2.out)
       clear o2 b2)
    | ((with_reducible refine az 6 ?_); refine pQ.af rfl (.tmp 6) rfl wr.heap.size 0 rfl x (au.ah K2.out) ?_))
   refine (HT.out _ x _ S2.out (by have := zB.out; have := HJ.out; omega)).mono ?_
   rintro e w3 ⟨rfl, s3, b3, k3⟩
   have S3 := qh s3
   have B3 := qh (WV.out.trans ((B2.out.mono (Nat.le_trans HB.out WV.out.size)).trans b3))
   have K3 := qh (ZL.out.trans ((Kept.of_below B2.out).trans k3 B2.out.size) WV.out.size)
   clear s3 b3 k3 S2 B2 K2 HSK WV ZL
   obtain ⟨f, hf⟩ : ∃ f, lQ l' x.at_ = f := ⟨_, rfl⟩
   have HF := qh hf
   have WO := qh (show RU x l' = if f.isNone then iK aD.at_ jO x l' else l' by unfold RU; rw [hf])
   rw [hf]
   rw [WO.out] at S3
   clear hf
   cases f with
   | some d =>
    go_wp2_with fail
    go_ret
    have hq2 : iX aD.at_ jO l ps = none := by
     rw [HQ.out, HDX.out]
     unfold iX
     rw [if_pos (by show (lQ l' x.at_).isSome = true; rw [HF.out]; rfl)]
    rw [hq2]
    exact ⟨rfl, ⟨l', S3.out, fun x h => by cases h⟩, B3.out, K3.out⟩
   | none =>
    have sV := qh (show iX aD.at_ jO l ps = iX aD.at_ jO (iK aD.at_ jO x l') (ps.drop (j + 1)) by
     rw [HQ.out, HDX.out]
     conv => lhs; unfold iX
     rw [if_neg (by show ¬ (lQ l' x.at_).isSome = true; rw [HF.out]; simp)])
    have aaG := qh (show (iK aD.at_ jO x l').length ≤ 400 + (j + 1) by
     rw [yl]
     have h2 := zB.out
     omega)
    have S4 := qh (show pM K base g fv (iK aD.at_ jO x l') q w3 from S3.out)
    clear HQ zB S3 HF HDX WO
    go_wp2_with fail
    go_roundw
    case rel => exact ⟨j + 1, _, by go_num, HJ.out.2, sV, aaG, S4, B3, K3⟩
    case measure => have := HJ.out; simp [intOf]; omega
  ·have hd : decide ((j : Int) < (ps.length : Int)) = false := by simp; omega
   have hjl : j = ps.length := by omega
   subst hjl
   have HE := qh (show iX aD.at_ jO l ps = some l' by
    rw [HQ.out, List.drop_length]
    rfl)
   go_wp2_with fail
   go_ret
   rw [HE.out]
   exact ⟨rfl, ⟨l', HSK.out, fun x h => (Option.some.inj h).symm⟩, WV.out, ZL.out⟩
end
section
open Go.RowKit
theorem Jq {i : Nat} (h : i < 4294967296) : (dF i).1 = (i : Int) := by
 show ((i % 4294967296 : Nat) : Int) = i
 omega
end
section
open Go.RowKit
theorem Lt (t : TypeId) (ht : t = 317) (p : FK) (o : aQ .i64 × aS) (h : aQ .u32) (b : Bool) : Tryz.prog.built t [(0, .agg (aR .u32 p).toArray), (1, .agg (dR .i64 o).toArray), (2, .int .u32 h.1), (3, .bool b)] = some (aX ⟨p, o, h, b⟩).toArray := by
 subst ht
 obtain ⟨⟨l, hl⟩, z⟩ := p
 obtain ⟨y, ⟨k, hk⟩⟩ := o
 iterate 32 (rcases l with _ | ⟨b, l⟩; · simp at hl)
 rcases l with _ | ⟨b, l⟩
 ·iterate 32 (rcases k with _ | ⟨b, k⟩; · simp at hk)
  rcases k with _ | ⟨b, k⟩
  ·kernel_rfl
  ·simp at hk
 ·simp at hl
def yo : FK := (ai, ⟨0, by decide⟩)
def Ux : aQ .i64 × aS := (⟨0, by decide⟩, ai)
theorem ZR : ∃ zv, (Tryz.prog.info? 142).map (fun i => (i.zero, i.bytes)) = some (some zv, 36) ∧ zv.cells = (aR .u32 yo).toArray := by
 have h : (Tryz.prog.info? 142).map (fun i => (i.zero, i.bytes)) = some (some (.agg (aR .u32 yo).toArray), 36) := by kernel_rfl
 exact ⟨_, h, rfl⟩
theorem ZT : ∃ zv, (Tryz.prog.info? 317).map (fun i => (i.zero, i.bytes)) = some (some zv, 88) ∧ zv.cells = (aX dh).toArray := by
 have h : (Tryz.prog.info? 317).map (fun i => (i.zero, i.bytes)) = some (some (.agg (aX dh).toArray), 88) := by kernel_rfl
 exact ⟨_, h, rfl⟩
def fill {α : Type} (n j : Nat) (f : Nat → α) (z : α) : List α := tab n fun i => if i < j then f i else z
theorem yX {α : Type} (n j : Nat) (f : Nat → α) (z : α) : (fill n j f z).length = n := iJ _ _
theorem AZ {α : Type} (n : Nat) (f : Nat → α) (z : α) : fill n 0 f z = List.replicate n z := by
 unfold fill tab
 apply List.ext_getElem
 ·simp
 ·intro i h1 h2
  simp
theorem ET {α : Type} (n : Nat) (f : Nat → α) (z : α) : fill n n f z = tab n f := qE n _ _ fun i hi => by simp [hi]
theorem ER {α : Type} (n j : Nat) (f : Nat → α) (z : α) : (fill n j f z).set j (f j) = fill n (j + 1) f z := by
 refine xk n _ _ j (f j) fun i hi => ?_
 by_cases h : i = j
 ·subst h; simp
 ·by_cases h2 : i < j
  ·simp [h, h2, show i < j + 1 by omega]
  ·simp [h, h2, show ¬ i < j + 1 by omega]
def Gp (id : aS) (n : Nat) : List FK := tab n fun i => (id, dF i)
theorem Nj (id : aS) (n : Nat) : (Gp id n).length = n := iJ _ _
def uC (id : aS) (h : aQ .u32) (b : Bool) (os : List (aQ .i64 × aS)) (i : Nat) : aD := ⟨(id, dF i), (os[i]?).getD Ux, h, b⟩
theorem AA (id : aS) (h : aQ .u32) (b : Bool) : ∀ (os : List (aQ .i64 × aS)) (k i : Nat) (hi : i < (iw id h b k os).length), (iw id h b k os)[i] = ⟨(id, dF (k + i)), (os[i]?).getD Ux, h, b⟩
 | [], _, i, hi => by simp [iw] at hi
 | o :: os, k, 0, _ => by simp [iw]
 | o :: os, k, i + 1, hi => by
  have := AA id h b os (k + 1) i (by simpa [iw] using hi)
  simp only [iw, List.getElem_cons_succ, List.getElem?_cons_succ]
  rw [this, show k + 1 + i = k + (i + 1) by omega]
theorem Kl (id : aS) (h : aQ .u32) (b : Bool) (os : List (aQ .i64 × aS)) : tab os.length (uC id h b os) = iw id h b 0 os := by
 apply List.ext_getElem
 ·rw [iJ, kY]
 ·intro i h1 h2
  rw [qD, AA, Nat.zero_add]
  rfl
theorem Eg (A : Option Addr) (co n : Nat) (id : aS) (w : World) (hn : n ≤ 1000) :
 Calls Tryz.prog 316 #[.slice A n co, .agg (ak id).toArray] w fun e w' => ∃ g, e = .returned (.slice (some ⟨g, 0, none⟩) n n) ∧ ax w' g 142 (cellsOf (aR .u32) (Gp id n)).toArray ∧ w.heap.size ≤ g ∧ Below w.heap.size w w' := by
 obtain ⟨zv, hz1, hz2⟩ := ZR
 have hmk : ∀ W, (Instr.makeSlice 89 (.int .i64 (n : Int)) (.int .i64 (n : Int))).run Tryz.prog W = .ok (.slice (some ⟨W.heap.size, 0, none⟩) n n) (W.alloc (.cells (cellsOf (aR .u32) (List.replicate n yo)).toArray 142)) := fun W => jU.made W yo zv 36 hz1 hz2 (by omega) .i64 .i64 n (by omega)
 have H0 := qh (show Holds w [(w.heap.size, 26, (ak id).toArray)] ((w.alloc (.cells (ak id).toArray 26)).alloc (.cells (cellsOf (aR .u32) (List.replicate n yo)).toArray 142)) from ((Holds.nil w).box 26 (ak id).toArray).alloc _)
 have K0 := qh (show ax ((w.alloc (.cells (ak id).toArray 26)).alloc (.cells (cellsOf (aR .u32) (List.replicate n yo)).toArray 142)) (w.heap.size + 1) 142 (cellsOf (aR .u32) (fill n 0 (fun i => ((id, dF i) : FK)) yo)).toArray from by rw [AZ]; exact bg (g := w.heap.size + 1) 142 _ (by simp))
 clear hz1 hz2
 go_enter Tryz.func316, Tryz.ntmps316
 go_wp2_with fail
 clear hmk
 go_loopw [6, 12] (fun _ si wr => ∃ j : Nat, si = .int .i64 j ∧ j ≤ n ∧ Hid (Holds w [(w.heap.size, 26, (ak id).toArray)] wr) ∧ Hid (ax wr (w.heap.size + 1) 142 (cellsOf (aR .u32) (fill n j (fun i => ((id, dF i) : FK)) yo)).toArray)) (fun _ si _ => n - (intOf si).toNat)
 case atStart => exact ⟨0, rfl, Nat.zero_le _, H0, K0⟩
 case round =>
  clear H0 K0
  obtain ⟨j, rfl, hj, HH, HB⟩ := hrel
  by_cases hlt : j < n
  ·have hd : decide ((j : Int) < (n : Int)) = true := by simp; omega
   have hi0 : (0 : Int) ≤ (j : Int) := by omega
   have hi1 : (j : Int) < (n : Int) := by omega
   have hmc : (j : Int) % 4294967296 = (j : Int) := by omega
   have HV := qh (show (j : Int) = (dF j).1 from (Jq (by omega)).symm)
   have HJ := qh (And.intro hj hlt)
   go_wp2_with (first
    | ((with_reducible refine az 3 ?_); refine bL.af rfl (.tmp 3) rfl w.heap.size 0 rfl id (au.ah (HH.out.at (x := (w.heap.size, 26, (ak id).toArray)) (by simp))) ?_)
    | ((with_reducible refine bW 20 ?_); refine bu rfl 142 #[(0, .tmp 17), (1, .tmp 19)] rfl (aR .u32 (id, dF j)).toArray ((congrArg (Tryz.prog.built 142) ((show _ = [(0, Value.agg (ak id).toArray), (1, Value.int .u32 ((j : Nat) : Int))] by kernel_rfl).trans (congrArg (fun z => [(0, Value.agg (ak id).toArray), (1, Value.int .u32 z)]) HV.out))).trans (Ls _ rfl id (dF j))) ?_)
    | ((with_reducible refine ag 21 20 ?_); refine jU.aj rfl (.tmp 21) (.tmp 20) rfl rfl (w.heap.size + 1) j (id, dF j) (by first | rfl | (simp only [Nat.zero_add]; rfl)) rfl 142 _ HB.out (by rw [yX]; exact HJ.out.2) ?_; intro w3 o3 b3
       have B3 := qh (show ax w3 (w.heap.size + 1) 142 (cellsOf (aR .u32) (fill n (j + 1) (fun i => ((id, dF i) : FK)) yo)).toArray from by
        have h3 : (fill n j (fun i => ((id, dF i) : FK)) yo).set j (id, dF j) = _ := ER n j (fun i => ((id, dF i) : FK)) yo
        rw [h3] at b3
        exact b3)
       have H3 := qh (show Holds w [(w.heap.size, 26, (ak id).toArray)] w3 from HH.out.low (o3.below (B := w.heap.size + 1) (by simp)) (by omega) (by simp))
       clear b3 o3))
   go_roundw
   case rel => exact ⟨j + 1, by go_num, HJ.out.2, H3, B3⟩
   case measure => have := HJ.out; simp [intOf]; omega
  ·have hd : decide ((j : Int) < (n : Int)) = false := by simp; omega
   have hjl : j = n := by omega
   subst hjl
   have HB2 := qh (show ax wr (w.heap.size + 1) 142 (cellsOf (aR .u32) (Gp id j)).toArray from by have := HB.out; rwa [ET] at this)
   clear HB
   go_wp2_with fail
   go_ret
   exact ⟨w.heap.size + 1, rfl, HB2.out, by omega, HH.out.below⟩
theorem au.only {w w' : World} {g gg off : Nat} {cs : List Value} (h : au w g off cs) (o : Only [gg] w w') (hne : g ≠ gg) : au w' g off cs := fun i v hi => (o.cell (by simpa using hne)).trans (h i v hi)
theorem xD {P : Program} {ops : Array Oper} {S : World → Prop} {a : Act} {o : Oper} (hw : Region.wanted o (yielded ops a.tmps) = true) (t : TypeId) (parts : Array (Nat × Operand)) (ho : o.op = .build t parts) (cells : Array Value)
 (hb : P.built t (parts.map fun (i, x) => (i, a.eval x)).toList = some cells) : YieldsIf P ops S o (.agg cells) a :=
 .inl ⟨hw, fun w _ => by
  unfold execOp
  simp only [ho, Sem.run_bind, run_build w t _ cells hb, Result.andThen_ok]
  rfl⟩
theorem J5 (A : Option Addr) (co : Nat) (os : List (aQ .i64 × aS)) (id : aS) (h : aQ .u32) (b : Bool) (w : World) (hr : aK (dR .i64) 33 w w.heap.size A co os) (hn : os.length ≤ 400) :
 Calls Tryz.prog 280 #[.slice A os.length co, .agg (ak id).toArray, .int .u32 h.1, .bool b] w fun e w' => ∃ g, e = .returned (.slice (some ⟨g, 0, none⟩) os.length os.length) ∧ ax w' g 317 (cellsOf aX (iw id h b 0 os)).toArray ∧ w.heap.size ≤ g ∧ Below w.heap.size w w' := by
 obtain ⟨zv, hz1, hz2⟩ := ZT
 have hmk : ∀ W, (Instr.makeSlice 42 (.int .i64 (os.length : Int)) (.int .i64 (os.length : Int))).run Tryz.prog W = .ok (.slice (some ⟨W.heap.size, 0, none⟩) os.length os.length) (W.alloc (.cells (cellsOf aX (List.replicate os.length dh)).toArray 317)) := fun W => jg.made W dh zv 88 hz1 hz2 (by omega) .i64 .i64 os.length (by omega)
 obtain ⟨Z, hZ, hz, hzs, hzn⟩ := bB Jk C9
 have Wm := qh hzs
 have H0 := qh (show Holds w [(w.heap.size, 26, (ak id).toArray)] ((w.alloc (.cells (ak id).toArray 26)).alloc (.cells (cellsOf aX (List.replicate os.length dh)).toArray 317)) from ((Holds.nil w).box 26 (ak id).toArray).alloc _)
 have K0 := qh (show ax ((w.alloc (.cells (ak id).toArray 26)).alloc (.cells (cellsOf aX (List.replicate os.length dh)).toArray 317)) (w.heap.size + 1) 317 (cellsOf aX (fill os.length 0 (uC id h b os) dh)).toArray from by rw [AZ]; exact bg (g := w.heap.size + 1) 317 _ (by simp))
 have HR := qh hr
 have HN := qh hn
 have hm0 : os.length ≤ 9223372036854775807 := by omega
 clear hz1 hz2 hr hZ hzs
 go_enter Tryz.func280, Tryz.ntmps280
 go_wp2_with ((with_reducible refine az 5 ?_); refine bL.af rfl (.tmp 5) rfl w.heap.size 0 rfl id (au.ah (H0.out.at (x := (w.heap.size, 26, (ak id).toArray)) (by simp))) ?_)
 refine (Eg A co os.length id _ (by have := HN.out; omega)).mono ?_
 rintro e w1 ⟨g2, rfl, p1, hg2, b1⟩
 have HG2 := qh (show w.heap.size + 2 ≤ g2 from Nat.le_trans (by simp) hg2)
 have P1 := qh (show Below w.heap.size w w1 ∧ ax w1 (w.heap.size + 1) 317 (cellsOf aX (fill os.length 0 (uC id h b os) dh)).toArray ∧ ax w1 g2 142 (cellsOf (aR .u32) (Gp id os.length)).toArray from ⟨H0.out.below.trans (b1.mono H0.out.below.size), aa b1 K0.out K0.out.lt, p1⟩)
 clear hmk p1 hg2 b1 H0 K0
 go_wp2_with fail
 go_loopw [10, 19] (fun _ si wr => ∃ j : Nat, si = .int .i64 j ∧ j ≤ os.length ∧ Hid (Below w.heap.size w wr ∧ ax wr (w.heap.size + 1) 317 (cellsOf aX (fill os.length j (uC id h b os) dh)).toArray ∧ ax wr g2 142 (cellsOf (aR .u32) (Gp id os.length)).toArray)) (fun _ si _ => os.length - (intOf si).toNat)
 case atStart => exact ⟨0, rfl, Nat.zero_le _, P1⟩
 case round =>
  clear P1
  obtain ⟨j, rfl, hj, PV⟩ := hrel
  by_cases hlt : j < os.length
  ·have hd : decide ((j : Int) < (os.length : Int)) = true := by simp; omega
   have hi0 : (0 : Int) ≤ (j : Int) := by omega
   have hi1 : (j : Int) < (os.length : Int) := by omega
   have HJ := qh (And.intro hj hlt)
   obtain ⟨go, oo, hA, hgo, hco⟩ := (HR.out.below PV.out.1).at (fU _) hlt
   obtain ⟨o, ho⟩ : ∃ o, os[j]'hlt = o := ⟨_, rfl⟩
   rw [ho] at hco
   subst hA
   have HGO := qh hgo
   have HMJ := qh (show uC id h b os j = ⟨(id, dF j), o, h, b⟩ by unfold uC; rw [List.getElem?_eq_getElem hlt, ho]; rfl)
   have HXP := qh (show au wr g2 (j * 33) (aR .u32 (id, dF j)) from by
    have := (au.ah PV.out.2.2).at (fT _) (i := j) (by rw [Nj]; exact hlt)
    rw [Nat.zero_add] at this
    unfold Gp at this
    rwa [qD] at this)
   have HO1 := qh hco
   have HWR := qh (show w.heap.size + 2 ≤ wr.heap.size from by have := PV.out.2.2.lt; have := HG2.out; omega)
   have YU := qh PV.out.2.2.lt
   clear hco ho hgo
   go_wp2_with (first
    | ((with_reducible refine az 22 ?_); refine jU.af rfl (.tmp 22) rfl g2 (j * 33) rfl (id, dF j) (fun i v hi => (World.cell?_alloc_lt wr _ _ YU.out).trans (HXP.out i v hi)) ?_)
    | ((with_reducible refine az 22 ?_); refine jU.af rfl (.tmp 22) rfl g2 (j * 33) rfl (id, dF j) HXP.out ?_)
    | ((with_reducible refine ag 11 23 ?_); refine FW.aj rfl (.tmp 11) (.tmp 23) rfl rfl wr.heap.size (id, dF j) rfl rfl _ _ (ax.new wr _ Z) (by rw [Wm.out]) ?_; intro w2 o2 b2
       have K2 := qh b2
       have B2 := qh (show Below wr.heap.size wr w2 from ((Below.refl _ _).alloc (Nat.le_refl _) _).trans (o2.below (by simp)))
       clear o2 b2))
   have HO := qh (show au w2 go (oo + j * 33) (dR .i64 o) from HO1.out.below B2.out (by have := HGO.out; have := HWR.out; omega))
   have rP := qh (show Below w.heap.size w w2.drew ∧ ax w2.drew (w.heap.size + 1) 317 (cellsOf aX (fill os.length j (uC id h b os) dh)).toArray ∧ ax w2.drew g2 142 (cellsOf (aR .u32) (Gp id os.length)).toArray from ⟨(PV.out.1.trans (B2.out.mono PV.out.1.size)).drew, aa B2.out PV.out.2.1 PV.out.2.1.lt, aa B2.out PV.out.2.2 PV.out.2.2.lt⟩)
   clear PV HXP HO1 YU
   have PV := rP
   clear rP
   refine wp_region_held_drew (S := fun V => au V wr.heap.size 0 (aR .u32 (id, dF j)) ∧ au V go (oo + j * 33) (dR .i64 o)) (by kernel_rfl) ⟨au.ah K2.out, HO.out⟩ ?_
   intro hS
   generalize w2.drew = wd at PV hS ⊢
   refine tkp 0 (.slice (some ⟨w.heap.size + 1, 0, none⟩) os.length os.length) rfl hS ?_
   go_simp
   refine tkp 1 (.int .i64 j) rfl hS ?_
   go_simp
   refine tk 2 (.agg (aR .u32 (id, dF j)).toArray) rfl (FW.aB (by rfl) (.tmp 11) rfl wr.heap.size 0 rfl (id, dF j) (fun _ h => h.1)) hS ?_
   go_simp
   refine tkp 3 (.slice (some ⟨go, oo, none⟩) os.length co) rfl hS ?_
   go_simp
   refine tkp 4 (.int .i64 j) rfl hS ?_
   go_simp
   refine tkp 5 (.pointer (some ⟨go, oo + j * 33, none⟩)) rfl hS ?_
   go_simp
   refine tk 6 (.agg (dR .i64 o).toArray) rfl (nD.aB (by rfl) (.tmp 29) rfl go (oo + j * 33) rfl o (fun _ h => h.2)) hS ?_
   go_simp
   refine tkp 7 (.int .u32 h.1) rfl hS ?_
   go_simp
   refine tkp 8 (.bool b) rfl hS ?_
   go_simp
   refine tk 9 (.agg (aX ⟨(id, dF j), o, h, b⟩).toArray) rfl (xD (by rfl) 317 #[(0, .tmp 26), (1, .tmp 30), (2, .tmp 31), (3, .tmp 32)] rfl _ ((show _ = Tryz.prog.built 317 [(0, Value.agg (aR .u32 (id, dF j)).toArray), (1, Value.agg (dR .i64 o).toArray), (2, Value.int .u32 h.1), (3, Value.bool b)] from congrArg (Tryz.prog.built 317) (by kernel_rfl)).trans (Lt _ rfl _ _ _ _))) hS ?_
   go_simp
   refine tkp 10 (.pointer (some ⟨w.heap.size + 1, j * 68, none⟩)) rfl hS ?_
   go_simp
   refine rd 11 rfl (fun Kq hK => ?_)
   refine pQ.fu rfl (.tmp 34) (.tmp 33) rfl rfl (w.heap.size + 1) (j * 68) ⟨(id, dF j), o, h, b⟩ rfl rfl 317 _ PV.out.2.1 (by rw [aT bR, yX]; have := HJ.out.2; omega) ?_
   intro w4 o4 b4
   rw [jg.xR _ j (by rw [yX]; exact HJ.out.2)] at b4
   have B4 := qh (show ax w4 (w.heap.size + 1) 317 (cellsOf aX (fill os.length (j + 1) (uC id h b os) dh)).toArray from by
    rw [← ER os.length j (uC id h b os) dh, HMJ.out]
    exact b4)
   have PV4 := qh (And.intro (PV.out.1.trans (o4.below (B := w.heap.size) (by simp))) (And.intro B4.out (o4.blk PV.out.2.2 (by have := HG2.out; simp; omega))))
   refine hK.out _ _ ⟨by have h1 := hS.1; exact h1.only o4 (by have := HG2.out; have := HWR.out; simp; omega), by have h1 := hS.2; exact h1.only o4 (by have := HGO.out; simp; omega)⟩ (fun hS => ?_)
   clear hK Kq o4 b4 PV B4
   refine wpAnyH_done (by kernel_rfl) ?_ _
   clear hS
   go_wp2_with fail
   go_roundw
   case rel => exact ⟨j + 1, by go_num, HJ.out.2, PV4⟩
   case measure => have := HJ.out; simp [intOf]; omega
  ·have hd : decide ((j : Int) < (os.length : Int)) = false := by simp; omega
   have hjl : j = os.length := by omega
   subst hjl
   have HB2 := qh (show ax wr (w.heap.size + 1) 317 (cellsOf aX (iw id h b 0 os)).toArray from by have := PV.out.2.1; rwa [ET, Kl] at this)
   go_wp2_with fail
   go_ret
   exact ⟨w.heap.size + 1, rfl, HB2.out, by omega, PV.out.1⟩
end
section
open Go.RowKit
theorem Qj (t : TypeId) (ht : t = 368) (A : Option Addr) (n c gf : Nat) (cb : Array Value) : Tryz.prog.built t [(0, .slice A n c), (2, .func (.func gf) #[] cb)] = some #[.slice A n c, .slice none 0 0, .func (.func gf) #[] cb] := by
 subst ht
 kernel_rfl
theorem R5 (A : Option Addr) (c : Nat) (l : List aD) (gf : Nat) (cb : Array Value) (w : World) (hl : aK aX 68 w w.heap.size A c l) (hn : l.length ≤ 1000) :
 Calls Tryz.prog 274 #[.slice A l.length c, .func (.func gf) #[] cb] w fun e w' => ∃ g v1, e = .returned (.pointer (some ⟨g, 0, none⟩)) ∧ ru w.heap.size g (.func (.func gf) #[] cb) v1 (.slice none 0 0) l [] w' ∧ Below w.heap.size w w' := by
 have HC := qh (zh A c l w.heap.size w (by omega) (Nat.le_refl _) hl)
 clear hl
 go_enter Tryz.func274, Tryz.ntmps274
 go_wp2_with fail
 refine HC.out.mono ?_
 rintro e w1 ⟨v, rfl, o1, b1⟩
 obtain ⟨A1, c1, rfl⟩ := ek o1
 have O1 := qh o1
 have B1 := qh b1
 clear o1 b1 HC
 go_wp2_with ((with_reducible refine bW 8 ?_); refine bu rfl 368 #[(0, .tmp 6), (2, .tmp 7)] rfl #[.slice A1 l.length c1, .slice none 0 0, .func (.func gf) #[] cb] ((congrArg (Tryz.prog.built 368) (show _ = [(0, Value.slice A1 l.length c1), (2, Value.func (.func gf) #[] cb)] by kernel_rfl)).trans (Qj _ rfl A1 l.length c1 gf cb)) ?_)
 go_ret
 refine ⟨w1.heap.size, .slice A1 l.length c1, rfl, ⟨ax.new w1 368 _, B1.out.size, own_below O1.out ((Below.refl _ _).alloc (Nat.le_refl _) _), ⟨rfl, .inl ⟨rfl, rfl⟩⟩, fun k _ h => by cases h⟩, B1.out.trans (((Below.refl _ _).alloc (Nat.le_refl _) _).mono B1.out.size)⟩
theorem ML {base g : Nat} {fv v1 v2 : Value} {l q : List aD} {w : World} (h : ru base g fv v1 v2 l q w) : pM [] base g fv l q w := ⟨v1, v2, h, fun b hb => by cases hb⟩
theorem MN {K : List Nat} {base g : Nat} {fv : Value} {l q : List aD} {w w' : World} (h : pM [] base g fv l q w) (hb : Below w.heap.size w w') (hK : ∀ b ∈ K, w.heap.size ≤ b ∧ b < w'.heap.size) : pM K base g fv l q w' := by
 obtain ⟨v1, v2, h, _⟩ := h
 refine ⟨v1, v2, h.below hb, fun b hB => ⟨(hK b hB).2, ?_⟩⟩
 have h1 := (hK b hB).1
 rintro (rfl | hx | hx)
 ·have := h.blk.lt; omega
 ·have := j6 h.o1 b hx; omega
 ·have := j6 h.o2 b hx; omega
end
end Go.Proofs.YtnpmpeoojncjhaaGreatDoor
