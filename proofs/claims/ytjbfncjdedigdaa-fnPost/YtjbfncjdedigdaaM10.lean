/- Disks: the model's NewDisk, Written, Flushed, Loose and Lost. -/
import Derived.Test.YtjbfncjdedigdaaM6
import Derived.Test.YtjbfncjdedigdaaM5
import Derived.Test.YtjbfncjdedigdaaM8
import Derived.Test.YtjbfncjdedigdaaM9
import Derived.Test.YtjbfncjdedigdaaM3
import Derived.Test.YtjbfncjdedigdaaM7
namespace Go.Proofs.Ytjbfncjdedigdaa
open Go.ChangeShapes Go.WideShapes Go.ChangeAt Go.RowKit

def wrK (xs ys : List Int) : List Int := if bothOk xs ys then xs else []
def wrN (xs ys : List Int) (i x : Int) : List Int := if bothOk xs ys then putI ys i x else []
def wrB (xs ys : List Int) (i x : Int) : Bool := bothOk xs ys && putB ys i x
def flN (xs ys : List Int) : List Int := if bothOk xs ys then ys else []
def loK (xs ys : List Int) (s : Int) : List Int := if bothOk xs ys then (if setOk s then chosenUp xs ys s 8 xs.length else xs) else []
def loN (xs ys : List Int) (s : Int) : List Int := if bothOk xs ys then (if setOk s then chosenUp xs ys s 8 xs.length else ys) else []

theorem wrK_len (xs ys : List Int) {n : Nat} (h : xs.length ≤ n) : (wrK xs ys).length ≤ n := by unfold wrK; split <;> simp [h]
theorem wrN_len (xs ys : List Int) (i x : Int) {n : Nat} (h : ys.length ≤ n) : (wrN xs ys i x).length ≤ n := by
  unfold wrN; split
  · exact putI_len ys i x h
  · simp
theorem loK_len (xs ys : List Int) (s : Int) {n : Nat} (h : xs.length ≤ n) : (loK xs ys s).length ≤ n := by
  unfold loK; split
  · split
    · rw [chosenUp_len]; exact h
    · exact h
  · simp
theorem loN_len (xs ys : List Int) (s : Int) {n : Nat} (h : xs.length ≤ n) (h' : ys.length ≤ n) : (loN xs ys s).length ≤ n := by
  unfold loN; split
  · split
    · rw [chosenUp_len]; exact h
    · exact h'
  · simp
theorem ownNil2 (w : World) (base : Nat) : OwnD w base (.slice none 0 0) (.slice none 0 0) [] [] := ⟨Own.nil w base, Own.nil w base, .inl rfl, .inl rfl⟩

theorem Boxes.kept {w wx wy : World} {u v : Value} {h : Nat} (H : Boxes w wx u v) (g : wx.grownBy wy (some h)) (hh : w.heap.size + 2 ≤ h) : Boxes w wy u v :=
  ⟨H.1.kept g (by simp; omega), H.2.1.kept g (by simp; omega), H.2.2.1.grown g H.2.2.1.size (fun k e => by cases e; omega), Nat.le_trans H.2.2.2 g.size⟩

theorem Own.keptNew {w w' : World} {base : Nat} {v : Value} {xs : List Int} (h : Own w base v xs) (g : w.grownBy w' (some w.heap.size)) : Own w' base v xs :=
  h.kept g (by
    by_cases e : v.ownBlock = none
    · exact .inl e
    · refine .inr fun e2 => ?_
      have := h.lt _ e2
      omega)

theorem Boxes.alloc {w wx : World} {u v : Value} (H : Boxes w wx u v) (o : Obj) : Boxes w (wx.alloc o) u v := H.below (belowAlloc wx o)

theorem Own.ltBlock {w : World} {base : Nat} {v : Value} {xs : List Int} {g n cap : Nat} (h : Own w base v xs) (e : v = .slice (some ⟨g, 0, none⟩) n cap) : base ≤ g ∧ g < w.heap.size := h.lt g (by rw [e]; rfl)

theorem Own.setApart {w : World} {base g j : Nat} {v u : Value} {xs : List Int} {n cap : Nat} (h : Own w base v xs) (x : Value) (e : u = .slice (some ⟨g, 0, none⟩) n cap) (ha : v.ownBlock = none ∨ v.ownBlock ≠ u.ownBlock) : Own (w.setCell ⟨g, j, none⟩ x) base v xs :=
  h.kept (grownSet w g j x) (by rw [e] at ha; exact ha)
end Go.Proofs.Ytjbfncjdedigdaa
/- likeDisk of two disks that are the same is true. What the laws on disks ask, of plain lists. -/
namespace Go.Proofs.Ytjbfncjdedigdaa
open Go.ChangeShapes Go.WideShapes Go.ChangeAt Go.RowKit

theorem chosenUp_same (ys : List Int) (s : Int) (k : Nat) : chosenUp ys ys s k ys.length = ys := by
  refine list_eq_getD (by rw [chosenUp_len]) (fun j hj => ?_)
  rw [chosenUp_len] at hj
  rw [chosenUp_getD ys ys s k _ j hj]
  simp
theorem differUp_same (ys : List Int) : ∀ k, differUp ys ys k = 0
  | 0 => rfl
  | k + 1 => by rw [differUp, if_pos rfl, differUp_same ys k]
theorem bothOk_same {xs ys : List Int} (h : bothOk xs ys = true) : bothOk ys ys = true := by
  have := (bothOk_yes' h).2.1
  simp [bothOk, this]
theorem differI_same {ys : List Int} (h : bothOk ys ys = true) : differI ys ys = 0 := by simp [differI, h, differUp_same]
theorem lost_same {ys : List Int} (s : Int) (h : bothOk ys ys = true) : loK ys ys s = ys ∧ loN ys ys s = ys := by
  simp [loK, loN, h, chosenUp_same]
theorem zeros_ok {n : Int} (h : cntOk n = true) : bothOk (zerosI n) (zerosI n) = true ∧ differI (zerosI n) (zerosI n) = 0 := by
  have hb : blocksOk (zerosI n) = true := by
    have h2 : 1 ≤ n ∧ n ≤ 8 := by simpa [cntOk] using h
    simp only [zerosI, h2, and_self, if_true, blocksOk, lenOk, List.length_replicate]
    simp [valOk]
    omega
  have h1 : bothOk (zerosI n) (zerosI n) = true := by simp [bothOk, hb]
  exact ⟨h1, differI_same h1⟩
theorem getD_set (ys : List Int) (i : Nat) (x : Int) (h : i < ys.length) : (ys.set i x).getD i 0 = x := by simp [List.getD, h]
theorem set_ok {xs ys : List Int} {i x : Int} (h : bothOk xs ys = true) (hp : placeOk ys i x = true) : bothOk xs (ys.set i.toNat x) = true := by
  obtain ⟨h1, h2, h3⟩ := bothOk_yes' h
  have hv : valOk x = true := by simp [placeOk] at hp; exact hp.2.2
  have hb : blocksOk (ys.set i.toNat x) = true := by
    simp only [blocksOk, Bool.and_eq_true, List.all_eq_true, List.length_set] at h2 ⊢
    refine ⟨fun z hz => ?_, h2.2⟩
    rcases List.mem_or_eq_of_mem_set hz with hz | rfl
    · exact h2.1 z hz
    · exact hv
  simp [bothOk, h1, hb, h3]
theorem loose_set {xs ys : List Int} {i x : Int} (h : bothOk xs ys = true) (hp : placeOk ys i x = true) : inB (differI xs (ys.set i.toNat x)) i = (xs.getD i.toNat 0 != x) := by
  have hl := blocksOk_len (bothOk_yes' h).2.1
  have hi : 0 ≤ i ∧ i < (ys.length : Int) := by simp [placeOk] at hp; exact ⟨hp.1, hp.2.1⟩
  have e : differI xs (ys.set i.toNat x) = differUp xs (ys.set i.toNat x) 8 := by simp [differI, set_ok h hp]
  rw [e]
  have := differUp_in xs (ys.set i.toNat x) 8 (by omega) i.toNat
  rw [show ((i.toNat : Nat) : Int) = i by omega] at this
  rw [this, getD_set ys i.toNat x (by omega)]
  have h8 : i.toNat < 8 := by omega
  by_cases hx : xs.getD i.toNat 0 = x
  · simp only [hx, ne_eq, not_true_eq_false, and_false, decide_false, bne_self_eq_false]
  · simp only [h8, ne_eq, hx, not_false_eq_true, and_self, decide_true]
    exact (bne_iff_ne.2 hx).symm
end Go.Proofs.Ytjbfncjdedigdaa
/- Blocks by commands: what the law FnVolume asks, of plain lists. -/
namespace Go.Proofs.Ytjbfncjdedigdaa
open Go.ChangeShapes Go.WideShapes Go.ChangeAt Go.RowKit

theorem rd_wr (c : Cm) : (c.rd && c.wr) = false := by
  unfold Cm.rd Cm.wr inI
  by_cases h : c.o = 1
  · simp [h]
  · simp [h]
theorem did_none {xs ys : List Int} (c : Cm) (h : bothOk xs ys = false) : didD xs ys c = ([], [], ⟨7, []⟩) := by simp [didD, h]
theorem did_other {xs ys : List Int} {c : Cm} (hb : bothOk xs ys = true) (h : (c.ok && decide (c.o ≤ 5)) = false) : didD xs ys c = (xs, ys, ⟨7, []⟩) := by
  unfold didD
  rw [hb, h]
  simp
theorem did_in {xs ys : List Int} {c : Cm} (hb : bothOk xs ys = true) (h : (c.ok && decide (c.o ≤ 5)) = true) : didD xs ys c = didI xs ys c := by
  unfold didD
  rw [hb, h]
  simp
/- What is done is done to one place, or to none. -/
theorem did_cases {xs ys : List Int} (c : Cm) (hb : bothOk xs ys = true) :
    (((didD xs ys c).2.2.st ≠ 0 ∨ c.rd = true) ∧ (didD xs ys c).1 = xs ∧ (didD xs ys c).2.1 = ys) ∨
    ((didD xs ys c).2.2.st = 0 ∧ c.rd = false ∧ c.o = 5 ∧ (didD xs ys c).1 = ys ∧ (didD xs ys c).2.1 = ys) ∨
    ((didD xs ys c).2.2.st = 0 ∧ c.rd = false ∧ c.o ≠ 5 ∧ ∃ (j : Nat) (z : Int), c.p = j ∧ j < ys.length ∧ valOk z = true ∧ (didD xs ys c).1 = xs ∧ (didD xs ys c).2.1 = ys.set j z ∧ (c.o = 3 → z = c.b ∧ ys.getD j 0 = c.a) ∧ (c.o ≠ 3 → z = c.a)) := by
  cases h : (c.ok && decide (c.o ≤ 5)) with
  | false =>
    left
    rw [did_other hb h]
    exact ⟨.inl (by simp), rfl, rfl⟩
  | true =>
    rw [did_in hb h]
    obtain ⟨hk, h5⟩ : c.ok = true ∧ c.o ≤ 5 := by simpa using h
    obtain ⟨ho, hp⟩ := Cm.ok_vol hk h5
    obtain ⟨o, p, x, y, k0⟩ := c
    dsimp only at ho hp h5 ⊢
    unfold didI
    dsimp only
    by_cases e5 : o = 5
    · subst e5
      right; left
      rw [if_pos rfl]
      exact ⟨rfl, by simp [Cm.rd], rfl, rfl, rfl⟩
    · rw [if_neg e5]
      by_cases hr : rangeI ys ⟨o, p, x, y, k0⟩ = true
      · rw [if_pos hr]
        left
        exact ⟨.inl (by simp), rfl, rfl⟩
      · rw [if_neg hr]
        simp only [rangeI, Bool.or_eq_true, Bool.and_eq_true, decide_eq_true_eq, Bool.not_eq_true', not_or, not_and, Bool.not_eq_false] at hr
        obtain ⟨⟨r1, r2⟩, r3⟩ := hr
        by_cases e1 : o = 1
        · subst e1
          left
          rw [if_pos rfl]
          refine ⟨.inr ?_, rfl, rfl⟩
          unfold Cm.rd
          rw [hk]
          rfl
        · rw [if_neg e1]
          have hrd : (⟨o, p, x, y, k0⟩ : Cm).rd = false := by simp [Cm.rd, e1]
          have hj : p = (p.toNat : Int) := by omega
          have hjl : p.toNat < ys.length := by omega
          by_cases e2 : o = 2
          · subst e2
            right; right
            rw [if_pos rfl]
            exact ⟨rfl, hrd, e5, p.toNat, x, hj, hjl, r2 rfl, rfl, rfl, by simp, by simp⟩
          · rw [if_neg e2]
            by_cases e3 : o = 3
            · subst e3
              rw [if_pos rfl]
              by_cases ha : atI ys ⟨3, p, x, y, k0⟩ = x
              · rw [if_pos ha]
                right; right
                exact ⟨rfl, hrd, e5, p.toNat, y, hj, hjl, r3 rfl, rfl, rfl, fun _ => ⟨rfl, ha⟩, by simp⟩
              · rw [if_neg ha]
                left
                exact ⟨.inl (by simp), rfl, rfl⟩
            · rw [if_neg e3]
              right; right
              have hx : x = 0 := by
                have hk' := hk
                unfold Cm.ok Cm.told at hk'
                dsimp only at hk'
                simp only [Bool.and_eq_true, Bool.or_eq_true, decide_eq_true_eq, inI_iff] at hk'
                omega
              refine ⟨rfl, hrd, e5, p.toNat, 0, hj, hjl, rfl, rfl, rfl, fun e => absurd e e3, fun _ => hx.symm⟩
theorem put_ok {xs ys : List Int} {j : Nat} {z : Int} (hb : bothOk xs ys = true) (hj : j < ys.length) (hz : valOk z = true) : bothOk xs (ys.set j z) = true := by
  have hp : placeOk ys (j : Int) z = true := by simp [placeOk, hz]; omega
  have := set_ok hb hp
  simpa using this
/- What was put is read. -/
theorem read_put {xs ys : List Int} {j : Nat} {z : Int} (hb : bothOk xs ys = true) (hj : j < ys.length) (hz : valOk z = true) : didD xs (ys.set j z) ⟨1, j, 0, 0, 0⟩ = (xs, ys.set j z, ⟨0, decI z⟩) := by
  obtain ⟨h1, h2, h3⟩ := bothOk_yes' hb
  have h8 := blocksOk_len h2
  have hk : (⟨1, j, 0, 0, 0⟩ : Cm).ok = true := by
    simp [Cm.ok, Cm.told, Cm.fits, inI]
    omega
  rw [did_in (put_ok hb hj hz) (by rw [hk]; rfl)]
  have hr : rangeI (ys.set j z) ⟨1, j, 0, 0, 0⟩ = false := by simp [rangeI]; omega
  have ha : atI (ys.set j z) ⟨1, j, 0, 0, 0⟩ = z := by simp [atI, List.getD, hj]
  unfold didI
  rw [if_neg (by simp), hr, ha]
  simp
theorem without_put {xs ys : List Int} {j : Nat} {z : Int} (hb : bothOk xs ys = true) (hj : j < ys.length) (hz : valOk z = true) : withoutI (differI (ys.set j z) ys) (j : Int) = 0 := by
  obtain ⟨h1, h2, h3⟩ := bothOk_yes' hb
  have h8 := blocksOk_len h2
  have hp : putB ys (j : Int) z = true := by simp [putB, h2, placeOk, hz]; omega
  have he : putI ys (j : Int) z = ys.set j z := by
    have := (putB_ok hp).2.2.2.2
    simpa using this
  have hd := differ_put hp
  rw [he] at hd
  rw [← differI_symm]
  have h7 : j < 8 := by omega
  rcases hd with e | e
  · rw [e]
    have : ∀ i : Fin 8, withoutI 0 (i.val : Int) = 0 := by decide +kernel
    exact this ⟨j, h7⟩
  · rw [e]
    have : ∀ i : Fin 8, withoutI (withI 0 (i.val : Int)) (i.val : Int) = 0 := by decide +kernel
    exact this ⟨j, h7⟩

theorem like_same (va vb : Value) (xs : List Int) (w : World) (ha : Reads w va xs) (hb : Reads w vb xs) (hbig : xs.length ≤ 1099511627776) :
    Calls Try.prog 61 #[va, vb] w fun e w' => e = .returned (.bool true) ∧ Below w.heap.size w w' := by
  refine (like_any va vb xs xs w ha hb hbig).mono ?_
  rintro e w' ⟨rfl, n, rfl⟩
  exact ⟨by simp, below_drewN (Below.refl _ _) n⟩

end Go.Proofs.Ytjbfncjdedigdaa
/- What the laws on stores ask, of plain lists and numbers. -/
namespace Go.Proofs.Ytjbfncjdedigdaa
open Go.RowKit

theorem pred_unreg {h : Hd} {i : Int} (e : regI h.ks i = false) (key k : Int) : h.pred i key k = (h, false) := by simp [Hd.pred, e]
theorem act_unreg {h : Hd} {i : Int} (e : regI h.ks i = false) (c : Cm) (h6 : c.o ≠ 6) : (h.act i c).1 = h := by
  unfold Hd.act
  rw [if_neg h6]
  split
  · simp [conf, Hd.resd, e]
  · split
    · simp [conf, Hd.reld, e]
    · split
      · simp [conf, Hd.clrd, e]
      · split
        · split
          · rfl
          · simp [conf, pred_unreg e]
        · split <;> rfl
theorem resd_no (h : Hd) (i k : Int) : (h.resd i k).2 = false → (h.resd i k).1 = h := by
  unfold Hd.resd
  split
  · intro; rfl
  · split
    · intro e; cases e
    · intro; rfl
theorem reld_no (h : Hd) (i : Int) : (h.reld i).2 = false → (h.reld i).1 = h := by
  unfold Hd.reld
  split
  · intro; rfl
  · split
    · intro e; cases e
    · intro; rfl
theorem clrd_no (h : Hd) (i : Int) : (h.clrd i).2 = false → (h.clrd i).1 = h := by
  unfold Hd.clrd
  split
  · intro; rfl
  · intro e; cases e
theorem pred_no (h : Hd) (i key k : Int) : (h.pred i key k).2 = false → (h.pred i key k).1 = h := by
  unfold Hd.pred
  split
  · intro; rfl
  · split
    · intro e; cases e
    · intro e; cases e
theorem conf_ne {r : Hd × Bool} {h : Hd} (hr : r.2 = false → r.1 = h) (hs : (conf r).2.st ≠ 0) : (conf r).1 = h := by
  obtain ⟨a, b⟩ := r
  cases b with
  | false => exact hr rfl
  | true => exact absurd rfl hs
/- What isn't good changes nothing. -/
theorem act_bad {h : Hd} {i : Int} {c : Cm} : (h.act i c).2.st ≠ 0 → (h.act i c).1 = h := by
  unfold Hd.act
  split
  · intro e; exact absurd rfl e
  · split
    · exact conf_ne (resd_no h i c.k)
    · split
      · exact conf_ne (reld_no h i)
      · split
        · exact conf_ne (clrd_no h i)
        · split
          · split
            · intro; rfl
            · exact conf_ne (pred_no h i c.a c.k)
          · split
            · intro; rfl
            · intro; rfl
theorem didI_bad {xs ys : List Int} {c : Cm} : (didI xs ys c).2.2.st ≠ 0 → (didI xs ys c).1 = xs ∧ (didI xs ys c).2.1 = ys := by
  unfold didI
  split
  · intro e; exact absurd rfl e
  · split
    · intro; exact ⟨rfl, rfl⟩
    · split
      · intro e; exact absurd rfl e
      · split
        · intro e; exact absurd rfl e
        · split
          · split
            · intro e; exact absurd rfl e
            · intro; exact ⟨rfl, rfl⟩
          · intro e; exact absurd rfl e
theorem didI_st {xs ys : List Int} {c : Cm} : (didI xs ys c).2.2.st ≠ 3 ∧ (didI xs ys c).2.2.st ≠ 7 := by
  unfold didI
  repeat' split
  all_goals simp
theorem conf_st (r : Hd × Bool) : (conf r).2.st ≠ 7 := by
  obtain ⟨a, b⟩ := r
  cases b <;> simp [conf]
theorem act_st (h : Hd) (i : Int) (c : Cm) : (h.act i c).2.st ≠ 7 := by
  unfold Hd.act
  repeat' split
  all_goals first | exact conf_st _ | simp
/- Of a right store: what isn't good leaves it as it is. -/
theorem did_bad {s : Sr} {i : Int} {c : Cm} (ok : s.ok = true) (hs : (s.did i c).2.st ≠ 0) : (s.did i c).1 = s := by
  unfold Sr.did at hs ⊢
  rw [if_pos ok] at hs ⊢
  split at hs
  · rename_i q
    rw [if_pos q]
    unfold Sr.doing at hs ⊢
    split at hs
    · rename_i q5
      rw [if_pos q5]
      dsimp only
      rw [act_bad hs]
    · rename_i q5
      rw [if_neg q5]
      split at hs
      · rename_i qm
        rw [if_pos qm]
        dsimp only
        obtain ⟨e1, e2⟩ := didI_bad hs
        rw [e1, e2]
      · rename_i qm
        rw [if_neg qm]
  · rename_i q
    rw [if_neg q]
theorem did_seven {s : Sr} {i : Int} {c : Cm} (ok : s.ok = true) : (s.did i c).2.st = 7 → (inI i 0 3 && c.ok) = false := by
  unfold Sr.did
  rw [if_pos ok]
  split
  · intro e
    exfalso
    unfold Sr.doing at e
    split at e
    · exact act_st _ _ _ e
    · split at e
      · exact didI_st.2 e
      · simp at e
  · rename_i q
    intro
    simpa using q
/- A command of blocks: nothing is held anew, and it is a conflict where who may not. -/
theorem did_low {s : Sr} {i : Int} {c : Cm} (ok : s.ok = true) (hi : (inI i 0 3 && c.ok) = true) (h5 : c.o ≤ 5) : (s.did i c).1.h = s.h ∧ decide ((s.did i c).2.st = 3) = !s.h.may i (decide (c.o ≠ 1)) := by
  unfold Sr.did Sr.doing
  rw [if_pos ok, if_pos hi, if_neg (by omega)]
  cases hm : s.h.may i (decide (c.o ≠ 1)) with
  | true =>
    rw [if_pos rfl]
    exact ⟨rfl, by simp [didI_st.1]⟩
  | false =>
    rw [if_neg (by decide)]
    exact ⟨rfl, rfl⟩
/- An action: no block is changed; who isn't registered changes nothing, but by registering. -/
theorem did_high {s : Sr} {i : Int} {c : Cm} (ok : s.ok = true) (hi : (inI i 0 3 && c.ok) = true) (h5 : 5 < c.o) : (s.did i c).1.xs = s.xs ∧ (s.did i c).1.ys = s.ys ∧ (regI s.h.ks i = false → c.o ≠ 6 → (s.did i c).1.h = s.h) := by
  unfold Sr.did Sr.doing
  rw [if_pos ok, if_pos hi, if_pos h5]
  exact ⟨rfl, rfl, fun e h6 => act_unreg e c h6⟩
theorem free_ok {h : Hd} (ok : h.ok = true) : h.free.ok = true := by
  obtain ⟨hl, ht, hk, -⟩ := ok_iff.1 ok
  exact ok_iff.2 ⟨hl, ht, hk, mid_iff.2 (.inl ⟨rfl, rfl⟩)⟩
theorem clrd_ok {h : Hd} (ok : h.ok = true) (i : Int) : (h.clrd i).1.ok = true := by
  obtain ⟨hl, ht, hk, hm⟩ := ok_iff.1 ok
  unfold Hd.clrd
  split
  · exact ok
  · refine ok_iff.2 ⟨rfl, ?_, (show keysI [0, 0, 0, 0] = true by decide), mid_iff.2 (.inl ⟨rfl, rfl⟩)⟩
    dsimp only
    unfold turnI
    split <;> omega
theorem resd_ok {h : Hd} (ok : h.ok = true) {i k : Int} (hi : 0 ≤ i ∧ i ≤ 3) (hk : kiI k = true) : (h.resd i k).1.ok = true := by
  unfold Hd.resd
  split
  · exact ok
  · rename_i hr
    split
    · exact take_ok ok hi (reg_of.1 (by simpa using hr)) hk
    · exact ok
theorem reld_ok {h : Hd} (ok : h.ok = true) (i : Int) : (h.reld i).1.ok = true := by
  unfold Hd.reld
  split
  · exact ok
  · split
    · exact free_ok ok
    · exact ok
theorem pred_ok {h : Hd} (ok : h.ok = true) {i key k : Int} (hi : inI i 0 3 = true) (hy : inI key 1 9999 = true) (hk : kiI k = true) : (h.pred i key k).1.ok = true := by
  have e : h.preempt i key k = told (h.pred i key k) := by simp [Hd.preempt, ok, hi, hy, hk]
  have c := preempt_cases h i key k
  rw [e] at c
  unfold told at c
  rcases c with c | c | ⟨x, c, -, -, -, -, -, -, hx, -⟩
  · have := congrArg Prod.snd c
    dsimp only at this
    split at this <;> cases this
  · have := congrArg Prod.fst c
    dsimp only at this
    rw [this]
    exact ok
  · have := congrArg Prod.fst c
    dsimp only at this
    rw [this]
    exact hx
theorem act_ok {h : Hd} (ok : h.ok = true) {i : Int} {c : Cm} (hi : inI i 0 3 = true) (hc : c.ok = true) : (h.act i c).1.ok = true := by
  have hi' := (inI_iff _ _ _).1 hi
  unfold Cm.ok Cm.fits at hc
  rw [Bool.and_eq_true] at hc
  have hf := hc.2
  unfold Hd.act
  split
  · rename_i h6
    rw [if_pos h6] at hf
    exact (regd_ok ok hi' ((inI_iff _ _ _).1 hf)).1
  · rename_i h6
    rw [if_neg h6] at hf
    split
    · rename_i h7
      rw [if_neg (by omega), if_pos h7] at hf
      exact resd_ok ok hi' hf
    · split
      · exact reld_ok ok i
      · split
        · exact clrd_ok ok i
        · split
          · rename_i h10
            rw [if_pos h10] at hf
            simp only [Bool.and_eq_true] at hf
            split
            · exact ok
            · rename_i ha
              have h1 := (inI_iff _ _ _).1 hf.1.1
              exact pred_ok ok hi ((inI_iff _ _ _).2 (by omega)) hf.2
          · split
            · exact ok
            · exact ok
theorem didI_ok {xs ys : List Int} {c : Cm} (hb : bothOk xs ys = true) (hc : (c.ok && decide (c.o ≤ 5)) = true) : bothOk (didI xs ys c).1 (didI xs ys c).2.1 = true := by
  have d := did_cases c hb
  rw [did_in hb hc] at d
  rcases d with ⟨-, e1, e2⟩ | ⟨-, -, -, e1, e2⟩ | ⟨-, -, -, j, z, -, hj, hz, e1, e2, -⟩
  · rw [e1, e2]; exact hb
  · rw [e1, e2]; exact bothOk_same hb
  · rw [e1, e2]; exact put_ok hb hj hz
/- A right store stays right. -/
theorem did_ok {s : Sr} {i : Int} {c : Cm} (ok : s.ok = true) : (s.did i c).1.ok = true := by
  have o := ok
  unfold Sr.ok at o
  rw [Bool.and_eq_true] at o
  unfold Sr.did
  rw [if_pos ok]
  split
  · rename_i q
    rw [Bool.and_eq_true] at q
    unfold Sr.doing
    split
    · unfold Sr.ok
      dsimp only
      rw [o.1, act_ok o.2 q.1 q.2]
      rfl
    · rename_i h5
      split
      · unfold Sr.ok
        dsimp only
        rw [didI_ok o.1 (by rw [q.2]; simp; omega), o.2]
        rfl
      · exact ok
  · exact ok
theorem zero_ok : Sr.zero.ok = false := rfl
theorem did_zero {s : Sr} {i : Int} {c : Cm} (ok : s.ok = false) : s.did i c = (Sr.zero, ⟨7, []⟩) := by
  unfold Sr.did
  rw [ok]
  rfl
theorem newS_ok {n : Int} (h : cntOk n = true) : (newS n).ok = true := by
  have e : (decide (1 ≤ n) && decide (n ≤ 8)) = true := h
  unfold newS
  rw [e, if_pos rfl]
  unfold Sr.ok
  dsimp only
  rw [(zeros_ok h).1]
  rfl
/- Power: what was flushed stays. -/
theorem power_flushed {ys : List Int} {h : Hd} (hb : bothOk ys ys = true) (set : Int) : Sr.power ⟨ys, ys, h⟩ set = if h.ok then ⟨ys, ys, h⟩ else Sr.zero := by
  unfold Sr.power Sr.ok
  dsimp only
  rw [hb, Bool.true_and, chosenUp_same]
  cases h.ok
  · rfl
  · simp
theorem alike_self {s : Sr} (ok : s.ok = true) : s.alike s = true := by simp [Sr.alike, ok, Hd.eqB]
theorem alike_eq {s t : Sr} (h : s.alike t = true) : s = t := by
  obtain ⟨xs, ys, ⟨ks, kd, ho, tu⟩⟩ := s
  obtain ⟨xt, yt, ⟨kt, kd', ho', tu'⟩⟩ := t
  simp [Sr.alike, Hd.eqB] at h
  obtain ⟨-, ⟨rfl, rfl⟩, ((⟨⟨rfl, rfl⟩, rfl⟩) | _)⟩ := h
  all_goals simp_all
end Go.Proofs.Ytjbfncjdedigdaa
