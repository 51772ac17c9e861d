/- Disks: the model's NewDisk, Written, Flushed, Loose and Lost. -/
import Derived.Test.YtjbfncjdedigdaaM6
import Derived.Test.YtjbfncjdedigdaaM5
import Derived.Test.YtjbfncjdedigdaaM8
import Derived.Test.YtjbfncjdedigdaaM9
import Derived.Test.YtjbfncjdedigdaaM3
namespace Go.Proofs.Ytjbfncjdedigdaa
open Go.ChangeShapes Go.WideShapes Go.ChangeAt Go.RowKit

def wrK (xs ys : List Int) : List Int := if bothOk xs ys then xs else []
def wrN (xs ys : List Int) (i x : Int) : List Int := if bothOk xs ys then putI ys i x else []
def wrB (xs ys : List Int) (i x : Int) : Bool := bothOk xs ys && putB ys i x
def flN (xs ys : List Int) : List Int := if bothOk xs ys then ys else []
def loK (xs ys : List Int) (s : Int) : List Int := if bothOk xs ys then (if setOk s then chosenUp xs ys s 8 xs.length else xs) else []
def loN (xs ys : List Int) (s : Int) : List Int := if bothOk xs ys then (if setOk s then chosenUp xs ys s 8 xs.length else ys) else []

theorem wrK_len (xs ys : List Int) {n : Nat} (h : xs.length ≤ n) : (wrK xs ys).length ≤ n := by unfold wrK; split <;> simp [h]
theorem wrN_len (xs ys : List Int) (i x : Int) {n : Nat} (h : ys.length ≤ n) : (wrN xs ys i x).length ≤ n := by
  unfold wrN; split
  · exact putI_len ys i x h
  · simp
theorem loK_len (xs ys : List Int) (s : Int) {n : Nat} (h : xs.length ≤ n) : (loK xs ys s).length ≤ n := by
  unfold loK; split
  · split
    · rw [chosenUp_len]; exact h
    · exact h
  · simp
theorem loN_len (xs ys : List Int) (s : Int) {n : Nat} (h : xs.length ≤ n) (h' : ys.length ≤ n) : (loN xs ys s).length ≤ n := by
  unfold loN; split
  · split
    · rw [chosenUp_len]; exact h
    · exact h'
  · simp
theorem ownNil2 (w : World) (base : Nat) : OwnD w base (.slice none 0 0) (.slice none 0 0) [] [] := ⟨Own.nil w base, Own.nil w base, .inl rfl, .inl rfl⟩

theorem Boxes.kept {w wx wy : World} {u v : Value} {h : Nat} (H : Boxes w wx u v) (g : wx.grownBy wy (some h)) (hh : w.heap.size + 2 ≤ h) : Boxes w wy u v :=
  ⟨H.1.kept g (by simp; omega), H.2.1.kept g (by simp; omega), H.2.2.1.grown g H.2.2.1.size (fun k e => by cases e; omega), Nat.le_trans H.2.2.2 g.size⟩

theorem Own.keptNew {w w' : World} {base : Nat} {v : Value} {xs : List Int} (h : Own w base v xs) (g : w.grownBy w' (some w.heap.size)) : Own w' base v xs :=
  h.kept g (by
    by_cases e : v.ownBlock = none
    · exact .inl e
    · refine .inr fun e2 => ?_
      have := h.lt _ e2
      omega)

theorem Boxes.alloc {w wx : World} {u v : Value} (H : Boxes w wx u v) (o : Obj) : Boxes w (wx.alloc o) u v := H.below (belowAlloc wx o)

theorem Own.ltBlock {w : World} {base : Nat} {v : Value} {xs : List Int} {g n cap : Nat} (h : Own w base v xs) (e : v = .slice (some ⟨g, 0, none⟩) n cap) : base ≤ g ∧ g < w.heap.size := h.lt g (by rw [e]; rfl)

theorem Own.setApart {w : World} {base g j : Nat} {v u : Value} {xs : List Int} {n cap : Nat} (h : Own w base v xs) (x : Value) (e : u = .slice (some ⟨g, 0, none⟩) n cap) (ha : v.ownBlock = none ∨ v.ownBlock ≠ u.ownBlock) : Own (w.setCell ⟨g, j, none⟩ x) base v xs :=
  h.kept (grownSet w g j x) (by rw [e] at ha; exact ha)
end Go.Proofs.Ytjbfncjdedigdaa
/- likeDisk of two disks that are the same is true. What the laws on disks ask, of plain lists. -/
namespace Go.Proofs.Ytjbfncjdedigdaa
open Go.ChangeShapes Go.WideShapes Go.ChangeAt Go.RowKit

theorem chosenUp_same (ys : List Int) (s : Int) (k : Nat) : chosenUp ys ys s k ys.length = ys := by
  refine list_eq_getD (by rw [chosenUp_len]) (fun j hj => ?_)
  rw [chosenUp_len] at hj
  rw [chosenUp_getD ys ys s k _ j hj]
  simp
theorem differUp_same (ys : List Int) : ∀ k, differUp ys ys k = 0
  | 0 => rfl
  | k + 1 => by rw [differUp, if_pos rfl, differUp_same ys k]
theorem bothOk_same {xs ys : List Int} (h : bothOk xs ys = true) : bothOk ys ys = true := by
  have := (bothOk_yes' h).2.1
  simp [bothOk, this]
theorem differI_same {ys : List Int} (h : bothOk ys ys = true) : differI ys ys = 0 := by simp [differI, h, differUp_same]
theorem lost_same {ys : List Int} (s : Int) (h : bothOk ys ys = true) : loK ys ys s = ys ∧ loN ys ys s = ys := by
  simp [loK, loN, h, chosenUp_same]
theorem zeros_ok {n : Int} (h : cntOk n = true) : bothOk (zerosI n) (zerosI n) = true ∧ differI (zerosI n) (zerosI n) = 0 := by
  have hb : blocksOk (zerosI n) = true := by
    have h2 : 1 ≤ n ∧ n ≤ 8 := by simpa [cntOk] using h
    simp only [zerosI, h2, and_self, if_true, blocksOk, lenOk, List.length_replicate]
    simp [valOk]
    omega
  have h1 : bothOk (zerosI n) (zerosI n) = true := by simp [bothOk, hb]
  exact ⟨h1, differI_same h1⟩
theorem getD_set (ys : List Int) (i : Nat) (x : Int) (h : i < ys.length) : (ys.set i x).getD i 0 = x := by simp [List.getD, h]
theorem set_ok {xs ys : List Int} {i x : Int} (h : bothOk xs ys = true) (hp : placeOk ys i x = true) : bothOk xs (ys.set i.toNat x) = true := by
  obtain ⟨h1, h2, h3⟩ := bothOk_yes' h
  have hv : valOk x = true := by simp [placeOk] at hp; exact hp.2.2
  have hb : blocksOk (ys.set i.toNat x) = true := by
    simp only [blocksOk, Bool.and_eq_true, List.all_eq_true, List.length_set] at h2 ⊢
    refine ⟨fun z hz => ?_, h2.2⟩
    rcases List.mem_or_eq_of_mem_set hz with hz | rfl
    · exact h2.1 z hz
    · exact hv
  simp [bothOk, h1, hb, h3]
theorem loose_set {xs ys : List Int} {i x : Int} (h : bothOk xs ys = true) (hp : placeOk ys i x = true) : inB (differI xs (ys.set i.toNat x)) i = (xs.getD i.toNat 0 != x) := by
  have hl := blocksOk_len (bothOk_yes' h).2.1
  have hi : 0 ≤ i ∧ i < (ys.length : Int) := by simp [placeOk] at hp; exact ⟨hp.1, hp.2.1⟩
  have e : differI xs (ys.set i.toNat x) = differUp xs (ys.set i.toNat x) 8 := by simp [differI, set_ok h hp]
  rw [e]
  have := differUp_in xs (ys.set i.toNat x) 8 (by omega) i.toNat
  rw [show ((i.toNat : Nat) : Int) = i by omega] at this
  rw [this, getD_set ys i.toNat x (by omega)]
  have h8 : i.toNat < 8 := by omega
  by_cases hx : xs.getD i.toNat 0 = x
  · simp only [hx, ne_eq, not_true_eq_false, and_false, decide_false, bne_self_eq_false]
  · simp only [h8, ne_eq, hx, not_false_eq_true, and_self, decide_true]
    exact (bne_iff_ne.2 hx).symm
end Go.Proofs.Ytjbfncjdedigdaa
/- Blocks by commands: what the law FnVolume asks, of plain lists. -/
namespace Go.Proofs.Ytjbfncjdedigdaa
open Go.ChangeShapes Go.WideShapes Go.ChangeAt Go.RowKit

theorem rd_wr (c : Cm) : (c.rd && c.wr) = false := by
  unfold Cm.rd Cm.wr inI
  by_cases h : c.o = 1
  · simp [h]
  · simp [h]
theorem did_none {xs ys : List Int} (c : Cm) (h : bothOk xs ys = false) : didD xs ys c = ([], [], ⟨7, []⟩) := by simp [didD, h]
theorem did_other {xs ys : List Int} {c : Cm} (hb : bothOk xs ys = true) (h : (c.ok && decide (c.o ≤ 5)) = false) : didD xs ys c = (xs, ys, ⟨7, []⟩) := by
  unfold didD
  rw [hb, h]
  simp
theorem did_in {xs ys : List Int} {c : Cm} (hb : bothOk xs ys = true) (h : (c.ok && decide (c.o ≤ 5)) = true) : didD xs ys c = didI xs ys c := by
  unfold didD
  rw [hb, h]
  simp
/- What is done is done to one place, or to none. -/
theorem did_cases {xs ys : List Int} (c : Cm) (hb : bothOk xs ys = true) :
    (((didD xs ys c).2.2.st ≠ 0 ∨ c.rd = true) ∧ (didD xs ys c).1 = xs ∧ (didD xs ys c).2.1 = ys) ∨
    ((didD xs ys c).2.2.st = 0 ∧ c.rd = false ∧ c.o = 5 ∧ (didD xs ys c).1 = ys ∧ (didD xs ys c).2.1 = ys) ∨
    ((didD xs ys c).2.2.st = 0 ∧ c.rd = false ∧ c.o ≠ 5 ∧ ∃ (j : Nat) (z : Int), c.p = j ∧ j < ys.length ∧ valOk z = true ∧ (didD xs ys c).1 = xs ∧ (didD xs ys c).2.1 = ys.set j z ∧ (c.o = 3 → z = c.b ∧ ys.getD j 0 = c.a) ∧ (c.o ≠ 3 → z = c.a)) := by
  cases h : (c.ok && decide (c.o ≤ 5)) with
  | false =>
    left
    rw [did_other hb h]
    exact ⟨.inl (by simp), rfl, rfl⟩
  | true =>
    rw [did_in hb h]
    obtain ⟨hk, h5⟩ : c.ok = true ∧ c.o ≤ 5 := by simpa using h
    obtain ⟨ho, hp⟩ := Cm.ok_vol hk h5
    obtain ⟨o, p, x, y, k0⟩ := c
    dsimp only at ho hp h5 ⊢
    unfold didI
    dsimp only
    by_cases e5 : o = 5
    · subst e5
      right; left
      rw [if_pos rfl]
      exact ⟨rfl, by simp [Cm.rd], rfl, rfl, rfl⟩
    · rw [if_neg e5]
      by_cases hr : rangeI ys ⟨o, p, x, y, k0⟩ = true
      · rw [if_pos hr]
        left
        exact ⟨.inl (by simp), rfl, rfl⟩
      · rw [if_neg hr]
        simp only [rangeI, Bool.or_eq_true, Bool.and_eq_true, decide_eq_true_eq, Bool.not_eq_true', not_or, not_and, Bool.not_eq_false] at hr
        obtain ⟨⟨r1, r2⟩, r3⟩ := hr
        by_cases e1 : o = 1
        · subst e1
          left
          rw [if_pos rfl]
          refine ⟨.inr ?_, rfl, rfl⟩
          unfold Cm.rd
          rw [hk]
          rfl
        · rw [if_neg e1]
          have hrd : (⟨o, p, x, y, k0⟩ : Cm).rd = false := by simp [Cm.rd, e1]
          have hj : p = (p.toNat : Int) := by omega
          have hjl : p.toNat < ys.length := by omega
          by_cases e2 : o = 2
          · subst e2
            right; right
            rw [if_pos rfl]
            exact ⟨rfl, hrd, e5, p.toNat, x, hj, hjl, r2 rfl, rfl, rfl, by simp, by simp⟩
          · rw [if_neg e2]
            by_cases e3 : o = 3
            · subst e3
              rw [if_pos rfl]
              by_cases ha : atI ys ⟨3, p, x, y, k0⟩ = x
              · rw [if_pos ha]
                right; right
                exact ⟨rfl, hrd, e5, p.toNat, y, hj, hjl, r3 rfl, rfl, rfl, fun _ => ⟨rfl, ha⟩, by simp⟩
              · rw [if_neg ha]
                left
                exact ⟨.inl (by simp), rfl, rfl⟩
            · rw [if_neg e3]
              right; right
              have hx : x = 0 := by
                have hk' := hk
                unfold Cm.ok Cm.told at hk'
                dsimp only at hk'
                simp only [Bool.and_eq_true, Bool.or_eq_true, decide_eq_true_eq, inI_iff] at hk'
                omega
              refine ⟨rfl, hrd, e5, p.toNat, 0, hj, hjl, rfl, rfl, rfl, fun e => absurd e e3, fun _ => hx.symm⟩
theorem put_ok {xs ys : List Int} {j : Nat} {z : Int} (hb : bothOk xs ys = true) (hj : j < ys.length) (hz : valOk z = true) : bothOk xs (ys.set j z) = true := by
  have hp : placeOk ys (j : Int) z = true := by simp [placeOk, hz]; omega
  have := set_ok hb hp
  simpa using this
/- What was put is read. -/
theorem read_put {xs ys : List Int} {j : Nat} {z : Int} (hb : bothOk xs ys = true) (hj : j < ys.length) (hz : valOk z = true) : didD xs (ys.set j z) ⟨1, j, 0, 0, 0⟩ = (xs, ys.set j z, ⟨0, decI z⟩) := by
  obtain ⟨h1, h2, h3⟩ := bothOk_yes' hb
  have h8 := blocksOk_len h2
  have hk : (⟨1, j, 0, 0, 0⟩ : Cm).ok = true := by
    simp [Cm.ok, Cm.told, Cm.fits, inI]
    omega
  rw [did_in (put_ok hb hj hz) (by rw [hk]; rfl)]
  have hr : rangeI (ys.set j z) ⟨1, j, 0, 0, 0⟩ = false := by simp [rangeI]; omega
  have ha : atI (ys.set j z) ⟨1, j, 0, 0, 0⟩ = z := by simp [atI, List.getD, hj]
  unfold didI
  rw [if_neg (by simp), hr, ha]
  simp
theorem without_put {xs ys : List Int} {j : Nat} {z : Int} (hb : bothOk xs ys = true) (hj : j < ys.length) (hz : valOk z = true) : withoutI (differI (ys.set j z) ys) (j : Int) = 0 := by
  obtain ⟨h1, h2, h3⟩ := bothOk_yes' hb
  have h8 := blocksOk_len h2
  have hp : putB ys (j : Int) z = true := by simp [putB, h2, placeOk, hz]; omega
  have he : putI ys (j : Int) z = ys.set j z := by
    have := (putB_ok hp).2.2.2.2
    simpa using this
  have hd := differ_put hp
  rw [he] at hd
  rw [← differI_symm]
  have h7 : j < 8 := by omega
  rcases hd with e | e
  · rw [e]
    have : ∀ i : Fin 8, withoutI 0 (i.val : Int) = 0 := by decide +kernel
    exact this ⟨j, h7⟩
  · rw [e]
    have : ∀ i : Fin 8, withoutI (withI 0 (i.val : Int)) (i.val : Int) = 0 := by decide +kernel
    exact this ⟨j, h7⟩

theorem like_same (va vb : Value) (xs : List Int) (w : World) (ha : Reads w va xs) (hb : Reads w vb xs) (hbig : xs.length ≤ 1099511627776) :
    Calls Try.prog 61 #[va, vb] w fun e w' => e = .returned (.bool true) ∧ Below w.heap.size w w' := by
  refine (like_any va vb xs xs w ha hb hbig).mono ?_
  rintro e w' ⟨rfl, n, rfl⟩
  exact ⟨by simp, below_drewN (Below.refl _ _) n⟩

end Go.Proofs.Ytjbfncjdedigdaa
