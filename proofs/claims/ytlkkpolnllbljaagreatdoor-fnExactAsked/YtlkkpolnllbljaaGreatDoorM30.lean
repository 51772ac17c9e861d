/- The program's refusals: what they wrap, and what is asked of them (refusedFor, refusedByDisk, refusedByAction, statusOf, textOf). -/
import Derived.Test.YtlkkpolnllbljaaGreatDoorM29
import Derived.Deep.DeepCutAuto
import Derived.Test.YtlkkpolnllbljaaGreatDoorM2
import Derived.Test.YtlkkpolnllbljaaGreatDoorM24
import Derived.Test.YtlkkpolnllbljaaGreatDoorM3
import Derived.Test.YtlkkpolnllbljaaGreatDoorM16
import Derived.Test.YtlkkpolnllbljaaGreatDoorM20
namespace Go.Proofs.YtlkkpolnllbljaaGreatDoor
open Go.ChangeShapes Go.WideShapes Go.ChangeAt Go.RowKit

/- Where the four reasons lie. -/
structure Four where
  n : Addr
  r : Addr
  u : Addr
  c : Addr
def Four.at (f : Four) (st : Int) : Addr := if st = 1 then f.r else if st = 2 then f.u else if st = 3 then f.c else f.n
def rfV (f : Four) (st : Int) (tx : Bs) : Value := .iface 189 (.agg #[.iface 327 (.pointer (some (f.at st))), .string ⟨tx.toArray⟩])
def errV (f : Four) (st : Int) (tx : Bs) : Value := if st = 0 then .nilIface else rfV f st tx
theorem errV_no (f : Four) (tx : Bs) : errV f 0 tx = .nilIface := rfl
theorem errV_yes (f : Four) {st : Int} (h : st ≠ 0) (tx : Bs) : errV f st tx = rfV f st tx := by unfold errV; rw [if_neg h]
def Held (w : World) (a : Addr) : Prop := ∃ c t, w.heap[a.block]? = some (.cells c t (0, 0))
theorem Held.below {w w' : World} {a : Addr} (h : Held w a) (b : Below w.heap.size w w') : Held w' a := by
  obtain ⟨c, t, h⟩ := h
  have hl : a.block < w.heap.size := by
    rcases Nat.lt_or_ge a.block w.heap.size with e | e
    · exact e
    · rw [Array.getElem?_eq_none e] at h; cases h
  exact ⟨c, t, by rw [b.block _ hl]; exact h⟩

/- The four reasons and the type of errors, as they are laid. -/
structure Sen (f : Four) (w : World) : Prop where
  n : w.cell? ⟨0, 0, none⟩ = some (.iface 327 (.pointer (some f.n)))
  r : w.cell? ⟨1, 0, none⟩ = some (.iface 327 (.pointer (some f.r)))
  u : w.cell? ⟨2, 0, none⟩ = some (.iface 327 (.pointer (some f.u)))
  c : w.cell? ⟨3, 0, none⟩ = some (.iface 327 (.pointer (some f.c)))
  ty : w.cell? ⟨5, 0, none⟩ = some (.iface 256 (.agg #[.pointer (some ⟨11, 138, none⟩)]))
  hn : Held w f.n
  hr : Held w f.r
  hu : Held w f.u
  hc : Held w f.c
  nr : f.n ≠ f.r
  nu : f.n ≠ f.u
  nc : f.n ≠ f.c
  ur : f.u ≠ f.r
  cr : f.c ≠ f.r
  cu : f.c ≠ f.u
theorem Sen.below {f : Four} {w w' : World} (h : Sen f w) (b : Below w.heap.size w w') : Sen f w' :=
  ⟨later_cell h.n b, later_cell h.r b, later_cell h.u b, later_cell h.c b, later_cell h.ty b, h.hn.below b, h.hr.below b, h.hu.below b, h.hc.below b, h.nr, h.nu, h.nc, h.ur, h.cr, h.cu⟩

theorem irefusedFor_any (t : TypeId) (p : Value) (w : World) :
    Calls Tryz.prog 160 #[.iface t p] w fun e w' => e = .returned (.iface 189 (.agg #[.iface t p, .string ⟨#[]⟩])) ∧ w' = w := by
  go_enter Tryz.func160, Tryz.ntmps160
  go_wp2
  go_ret
  exact ⟨rfl, rfl⟩

def acSt (code : Int) : Int := if code = 0 then 0 else if code = 1 then 3 else 1

theorem irefAct_any (f : Four) (code : Int) (w : World) (S : Sen f w) :
    Calls Tryz.prog 205 #[.int .i64 code] w fun e w' => e = .returned (errV f (acSt code) []) ∧ w' = w := by
  have hr := S.r
  have hc := S.c
  have H0 : Hid (code = 0 → errV f (acSt code) [] = .nilIface) := fun e => by subst e; rfl
  have H1 : Hid (code = 1 → errV f (acSt code) [] = .iface 189 (.agg #[.iface 327 (.pointer (some f.c)), .string ⟨#[]⟩])) := fun e => by subst e; rfl
  have H2 : Hid (code ≠ 0 → code ≠ 1 → errV f (acSt code) [] = .iface 189 (.agg #[.iface 327 (.pointer (some f.r)), .string ⟨#[]⟩])) := fun e e' => by
    unfold acSt
    rw [if_neg e, if_neg e']
    rfl
  obtain ⟨V, hV⟩ : ∃ V, V = errV f (acSt code) [] := ⟨_, rfl⟩
  rw [← hV] at H0 H1 H2 ⊢
  clear hV S
  by_cases h0 : code = 0
  · rw [H0.out h0]
    clear H0 H1 H2
    go_enter Tryz.func205, Tryz.ntmps205
    go_wp2
    go_ret
    exact ⟨rfl, rfl⟩
  · by_cases h1 : code = 1
    · rw [H1.out h1]
      clear H0 H1 H2
      go_enter Tryz.func205, Tryz.ntmps205
      go_wp2_with (go_at_call 160; refine (irefusedFor_any _ _ _).mono ?_; rintro e w' ⟨rfl, hw'⟩; subst w')
      go_ret
      exact ⟨rfl, rfl⟩
    · rw [H2.out h0 h1]
      clear H0 H1 H2
      go_enter Tryz.func205, Tryz.ntmps205
      go_wp2_with (go_at_call 160; refine (irefusedFor_any _ _ _).mono ?_; rintro e w' ⟨rfl, hw'⟩; subst w')
      go_ret
      exact ⟨rfl, rfl⟩

theorem irefDisk_any (f : Four) (an : An) (w : World) (S : Sen f w) (hs : an.st = 0 ∨ (an.st = 1 ∧ an.tx = []) ∨ an.st = 2 ∨ (an.st = 7 ∧ an.tx = [])) :
    Calls Tryz.prog 202 #[AV an] w fun e w' => e = .returned (errV f an.st an.tx) ∧ Below w.heap.size w w' := by
  have b0 : Below w.heap.size w (w.alloc (.cells #[.int .i64 an.st, .string ⟨an.tx.toArray⟩] 44)) := (Below.refl _ _).alloc (Nat.le_refl _) _
  have P0 := StB.new w 44 #[.int .i64 an.st, .string ⟨an.tx.toArray⟩]
  have k0 : (w.alloc (.cells #[.int .i64 an.st, .string ⟨an.tx.toArray⟩] 44)).cell? ⟨w.heap.size, 0, none⟩ = some (.int .i64 an.st) := P0.cell 0 rfl
  have k1 : (w.alloc (.cells #[.int .i64 an.st, .string ⟨an.tx.toArray⟩] 44)).cell? ⟨w.heap.size, 1, none⟩ = some (.string ⟨an.tx.toArray⟩) := P0.cell 1 rfl
  have S' := S.below b0
  have hr := S'.r
  have hu := S'.u
  have hn := S'.n
  have HB : Hid (Below w.heap.size w (w.alloc (.cells #[.int .i64 an.st, .string ⟨an.tx.toArray⟩] 44))) := b0
  clear P0 S' S b0
  obtain ⟨st, tx⟩ := an
  dsimp only at *
  unfold AV anA S
  dsimp only
  rcases hs with rfl | ⟨rfl, rfl⟩ | rfl | ⟨rfl, rfl⟩
  · rw [errV_no]
    go_enter Tryz.func202, Tryz.ntmps202
    go_wp2
    go_ret
    exact ⟨rfl, HB.out⟩
  · rw [show errV f 1 [] = .iface 189 (.agg #[.iface 327 (.pointer (some f.r)), .string ⟨#[]⟩]) from rfl]
    go_enter Tryz.func202, Tryz.ntmps202
    go_wp2_with (go_at_call 160; refine (irefusedFor_any _ _ _).mono ?_; rintro e w' ⟨rfl, hw'⟩; subst w')
    go_ret
    exact ⟨rfl, HB.out⟩
  · rw [show errV f 2 tx = .iface 189 (.agg #[.iface 327 (.pointer (some f.u)), .string ⟨tx.toArray⟩]) from rfl]
    go_enter Tryz.func202, Tryz.ntmps202
    go_wp2
    go_ret
    exact ⟨rfl, HB.out⟩
  · rw [show errV f 7 [] = .iface 189 (.agg #[.iface 327 (.pointer (some f.n)), .string ⟨#[]⟩]) from rfl]
    go_enter Tryz.func202, Tryz.ntmps202
    go_wp2_with (go_at_call 160; refine (irefusedFor_any _ _ _).mono ?_; rintro e w' ⟨rfl, hw'⟩; subst w')
    go_ret
    exact ⟨rfl, HB.out⟩

/- Is it wrapped, by the reasons' places? -/
theorem iis_any (a b : Addr) (y : Value) (w : World) (ha : Held w a) (hb : Held w b) :
    Calls Tryz.prog 167 #[.iface 189 (.agg #[.iface 327 (.pointer (some a)), y]), .iface 327 (.pointer (some b))] w fun e w' => e = .returned (.bool (decide (a = b))) ∧ Below w.heap.size w w' := by
  by_cases h : a = b
  · subst h
    rw [decide_eq_true rfl]
    exact is_same a y w
  · rw [decide_eq_false h]
    obtain ⟨ca, ta, ha⟩ := ha
    obtain ⟨cb, tb, hb⟩ := hb
    exact is_other a b y ca cb ta tb w h ha hb

set_option maxRecDepth 20000 in
set_option maxHeartbeats 1000000 in
theorem istatus_any (f : Four) (st : Int) (tx : Bs) (w : World) (S : Sen f w) (hs : st = 1 ∨ st = 2 ∨ st = 3 ∨ st = 7) :
    Calls Tryz.prog 121 #[rfV f st tx] w fun e w' => e = .returned (.int .i64 st) ∧ Below w.heap.size w w' := by
  have ha : ∀ wx, Sen f wx → Held wx (f.at st) := by
    intro wx S
    unfold Four.at
    split
    · exact S.hr
    · split
      · exact S.hu
      · split
        · exact S.hc
        · exact S.hn
  have C : Hid (∀ wx b, Sen f wx → Held wx b → Calls Tryz.prog 167 #[rfV f st tx, .iface 327 (.pointer (some b))] wx fun e w' => e = .returned (.bool (decide (f.at st = b))) ∧ Below wx.heap.size wx w') := fun wx b S hb => iis_any _ _ _ wx (ha wx S) hb
  have E1 : Hid (decide (f.at st = f.r) = decide (st = 1) ∧ (st ≠ 1 → decide (f.at st = f.u) = decide (st = 2)) ∧ (st ≠ 1 → st ≠ 2 → decide (f.at st = f.c) = decide (st = 3))) := by
    rcases hs with rfl | rfl | rfl | rfl
    · exact ⟨by simp [Four.at], fun h => absurd rfl h, fun h => absurd rfl h⟩
    · exact ⟨by simp [Four.at, S.ur], fun _ => by simp [Four.at], fun _ h => absurd rfl h⟩
    · exact ⟨by simp [Four.at, S.cr], fun _ => by simp [Four.at, S.cu], fun _ _ => by simp [Four.at]⟩
    · exact ⟨by simp [Four.at, S.nr], fun _ => by simp [Four.at, S.nu], fun _ _ => by simp [Four.at, S.nc]⟩
  have HS : Hid (Sen f w) := S
  have k1 := S.r
  obtain ⟨V, hV⟩ : ∃ V, V = rfV f st tx := ⟨_, rfl⟩
  have hI : ∃ t p, V = .iface t p := ⟨_, _, hV⟩
  rw [← hV] at C ⊢
  obtain ⟨t, p, rfl⟩ := hI
  clear S hV ha
  go_enter Tryz.func121, Tryz.ntmps121
  go_wp2_with fail
  refine (C.out _ _ HS.out HS.out.hr).mono ?_
  rintro e w1 ⟨rfl, b1⟩
  rw [E1.out.1]
  by_cases h1 : st = 1
  · subst h1
    rw [decide_eq_true rfl]
    go_wp2
    go_ret
    exact ⟨rfl, b1⟩
  · rw [decide_eq_false h1]
    have HS1 : Hid (Sen f w1) := HS.out.below b1
    have HB1 : Hid (Below w.heap.size w w1) := b1
    have k2 := HS1.out.u
    clear b1 k1
    go_wp2_with fail
    refine (C.out _ _ HS1.out HS1.out.hu).mono ?_
    rintro e w2 ⟨rfl, b2⟩
    rw [E1.out.2.1 h1]
    by_cases h2 : st = 2
    · subst h2
      have HB2 : Hid (Below w.heap.size w w2) := HB1.out.trans (b2.mono HB1.out.size)
      rw [decide_eq_true rfl]
      go_wp2
      go_ret
      exact ⟨rfl, HB2.out⟩
    · rw [decide_eq_false h2]
      have HS2 : Hid (Sen f w2) := HS1.out.below b2
      have HB2 : Hid (Below w.heap.size w w2) := HB1.out.trans (b2.mono HB1.out.size)
      have k3 := HS2.out.c
      clear b2 k2
      go_wp2_with fail
      refine (C.out _ _ HS2.out HS2.out.hc).mono ?_
      rintro e w3 ⟨rfl, b3⟩
      have HB3 : Hid (Below w.heap.size w w3) := HB2.out.trans (b3.mono HB2.out.size)
      rw [E1.out.2.2 h1 h2]
      clear k3 b3
      by_cases h3 : st = 3
      · subst h3
        rw [decide_eq_true rfl]
        go_wp2
        go_ret
        exact ⟨rfl, HB3.out⟩
      · have h7 : st = 7 := by omega
        subst h7
        rw [decide_eq_false (by decide)]
        go_wp2
        go_ret
        exact ⟨rfl, HB3.out⟩

set_option maxRecDepth 20000 in
set_option maxHeartbeats 1000000 in
theorem itext_any (f : Four) (st : Int) (tx : Bs) (w : World) (S : Sen f w) :
    Calls Tryz.prog 122 #[rfV f st tx] w fun e w' => e = .returned (.string ⟨tx.toArray⟩) ∧ Below w.heap.size w w' := by
  obtain ⟨w1, hw1⟩ : ∃ w1, w1 = w.alloc (.cells #[.nilIface, .string ⟨#[]⟩] 189) := ⟨_, rfl⟩
  have b1 : Below w.heap.size w w1 := by rw [hw1]; exact (Below.refl _ _).alloc (Nat.le_refl _) _
  have P1 : StB w1 w.heap.size 189 #[.nilIface, .string ⟨#[]⟩] := by rw [hw1]; exact StB.new _ _ _
  have c := as_hit 327 (.pointer (some (f.at st))) ⟨tx.toArray⟩ w.heap.size _ _ w1 (S.below b1).ty P1
  have HB : Hid (Below w.heap.size w w1) := b1
  unfold rfV
  clear b1 P1 S
  go_enter Tryz.func122, Tryz.ntmps122
  go_upto_region 2 with fail
  rw [← hw1]
  clear hw1
  go_wp2_with fail
  refine c.mono ?_
  rintro e w2 ⟨rfl, s2, g2⟩
  have k1 : w2.cell? ⟨w.heap.size, 1, none⟩ = some (.string ⟨tx.toArray⟩) := s2.cell 1 rfl
  have HB2 : Hid (Below w.heap.size w w2) := HB.out.grown g2 HB.out.size (fun k e => by cases e; exact Nat.le_refl _)
  clear s2 g2 c
  go_wp2
  go_ret
  exact ⟨rfl, HB2.out⟩
end Go.Proofs.YtlkkpolnllbljaaGreatDoor
/- What the program's actions ask and do, one after the other: what fits, what refuses, what is done. -/
namespace Go.Proofs.YtlkkpolnllbljaaGreatDoor
open Go.ChangeShapes Go.WideShapes Go.ChangeAt Go.RowKit

def wiA (i k d : Int) : Array Value := #[.int .i64 i, .int .i64 k, .int .i64 d]
theorem Tryz.isWish : IsS 298 3 := ⟨⟨_, Tryz.underlying298⟩, by kernel_rfl⟩
theorem wiA_one (i k d : Int) : (wiA i k d).all (·.oneCell') = true := by simp [wiA, Value.oneCell']
theorem wiA_cells {w : World} {g : Nat} {i k d : Int} (h : StB w g 298 (wiA i k d)) :
    w.cell? ⟨g, 0, none⟩ = some (.int .i64 i) ∧ w.cell? ⟨g, 1, none⟩ = some (.int .i64 k) ∧ w.cell? ⟨g, 2, none⟩ = some (.int .i64 d) :=
  ⟨h.cell 0 rfl, h.cell 1 rfl, h.cell 2 rfl⟩
def he0A : Array Value := heA (fun _ => 0) 0 0 0
/- Three new blocks: the holding, the wish, and what is answered. -/
def HW (w w1 : World) (f : Nat → Int) (kd ho tu i k d : Int) : Prop :=
  StB w1 w.heap.size 171 (heA f kd ho tu) ∧ StB w1 (w.heap.size + 1) 298 (wiA i k d) ∧ StB w1 (w.heap.size + 2) 171 he0A ∧ Below w.heap.size w w1
theorem HW.start (w : World) (f : Nat → Int) (kd ho tu i k d : Int) : HW w (((w.alloc (.cells (heA f kd ho tu) 171)).alloc (.cells (wiA i k d) 298)).alloc (.cells he0A 171)) f kd ho tu i k d := by
  refine ⟨((StB.new _ _ _).alloc _).alloc _, ?_, ?_, (((Below.refl _ _).alloc (Nat.le_refl _) _).alloc (by simp) _).alloc (by simp; omega) _⟩
  · have := StB.new (w.alloc (.cells (heA f kd ho tu) 171)) 298 (wiA i k d)
    rw [World.size_alloc] at this
    exact this.alloc _
  · have := StB.new ((w.alloc (.cells (heA f kd ho tu) 171)).alloc (.cells (wiA i k d) 298)) 171 he0A
    rw [World.size_alloc, World.size_alloc] at this
    exact this
theorem HW.next {w w1 w2 : World} {f : Nat → Int} {kd ho tu i k d : Int} (h : HW w w1 f kd ho tu i k d) (b : Below w1.heap.size w1 w2) : HW w w2 f kd ho tu i k d :=
  ⟨h.1.below b, h.2.1.below b, h.2.2.1.below b, h.2.2.2.trans (b.mono h.2.2.2.size)⟩
theorem HW.drew {w w1 : World} {f : Nat → Int} {kd ho tu i k d : Int} (h : HW w w1 f kd ho tu i k d) : HW w w1.drew f kd ho tu i k d := ⟨h.1, h.2.1, h.2.2.1, h.2.2.2.drew⟩
theorem HW.lt {w w1 : World} {f : Nat → Int} {kd ho tu i k d : Int} (h : HW w w1 f kd ho tu i k d) : w.heap.size + 2 < w1.heap.size := h.2.2.1.lt
theorem HW.set {w w1 w2 : World} {f g : Nat → Int} {kd ho tu i k d kd' ho' tu' : Int} (h : HW w w1 f kd ho tu i k d) (s : StB w2 w.heap.size 171 (heA g kd' ho' tu')) (b : w1.grownBy w2 (some w.heap.size)) : HW w w2 g kd' ho' tu' i k d :=
  ⟨s, h.2.1.kept b (by simp), h.2.2.1.kept b (by simp), h.2.2.2.grown b h.2.2.2.size (fun x e => by cases e; exact Nat.le_refl _)⟩
theorem HW.put {w w1 : World} {f g : Nat → Int} {kd ho tu i k d kd' ho' tu' : Int} (h : HW w w1 f kd ho tu i k d) (j : Nat) (x : Int) (e : (heA f kd ho tu).setIfInBounds j (.int .i64 x) = heA g kd' ho' tu') : HW w (w1.setCell ⟨w.heap.size, j, none⟩ (.int .i64 x)) g kd' ho' tu' i k d :=
  h.set (h.1.put j _ e) (grownSet w1 _ j _)

set_option maxRecDepth 20000 in
set_option maxHeartbeats 400000 in
theorem ianykey_any (i k d : Int) (w : World) :
    Calls Tryz.prog 271 #[.agg (wiA i k d)] w fun e w' => e = .returned (.bool (inI k 0 9999)) ∧ Below w.heap.size w w' := by
  have b1 : Below w.heap.size w (w.alloc (.cells (wiA i k d) 298)) := (Below.refl _ _).alloc (Nat.le_refl _) _
  have c1 := fun wx => ikeyok_any k wx
  unfold wiA at *
  go_enter Tryz.func271, Tryz.ntmps271
  go_wp2_with (first | (go_at_call 219; refine (c1 _).mono ?_; rintro e w' ⟨rfl, hw⟩; subst w'))
  go_ret
  exact ⟨rfl, b1⟩

set_option maxRecDepth 20000 in
set_option maxHeartbeats 400000 in
theorem isomekind_any (i k d : Int) (w : World) :
    Calls Tryz.prog 274 #[.agg (wiA i k d)] w fun e w' => e = .returned (.bool (kiI d)) ∧ Below w.heap.size w w' := by
  have b1 : Below w.heap.size w (w.alloc (.cells (wiA i k d) 298)) := (Below.refl _ _).alloc (Nat.le_refl _) _
  have c1 := fun wx => ikind_any d wx
  unfold wiA at *
  go_enter Tryz.func274, Tryz.ntmps274
  go_wp2_with (first | (go_at_call 222; refine (c1 _).mono ?_; rintro e w2 ⟨rfl, b2⟩))
  go_ret
  exact ⟨rfl, b1.trans (b2.mono b1.size)⟩

set_option maxRecDepth 20000 in
set_option maxHeartbeats 400000 in
theorem ianything_any (i k d : Int) (w : World) :
    Calls Tryz.prog 277 #[.agg (wiA i k d)] w fun e w' => e = .returned (.bool true) ∧ Below w.heap.size w w' := by
  have b1 : Below w.heap.size w (w.alloc (.cells (wiA i k d) 298)) := (Below.refl _ _).alloc (Nat.le_refl _) _
  unfold wiA at *
  go_enter Tryz.func277, Tryz.ntmps277
  go_wp2
  go_ret
  exact ⟨rfl, b1⟩

theorem key_some (k : Int) : (inI k 0 9999 && (k != 0)) = inI k 1 9999 := by
  rw [Bool.eq_iff_iff]
  simp [inI]
  omega

set_option maxRecDepth 20000 in
set_option maxHeartbeats 1000000 in
theorem isomekk_any (i k d : Int) (w : World) :
    Calls Tryz.prog 281 #[.agg (wiA i k d)] w fun e w' => e = .returned (.bool (inI k 1 9999 && kiI d)) ∧ Below w.heap.size w w' := by
  have b1 : Below w.heap.size w (w.alloc (.cells (wiA i k d) 298)) := (Below.refl _ _).alloc (Nat.le_refl _) _
  have c1 := fun wx => ikeyok_any k wx
  have c2 := fun wx => ikind_any d wx
  have HE : Hid ((inI k 0 9999 && (k != 0)) = inI k 1 9999) := key_some k
  obtain ⟨x, hx⟩ : ∃ x, x = inI k 0 9999 := ⟨_, rfl⟩
  obtain ⟨y, hy⟩ : ∃ y, y = kiI d := ⟨_, rfl⟩
  obtain ⟨z, hz⟩ : ∃ z, z = inI k 1 9999 := ⟨_, rfl⟩
  rw [← hx, ← hz] at HE
  rw [← hy, ← hz]
  simp only [← hx] at c1
  simp only [← hy] at c2
  clear hx hy hz
  unfold wiA at *
  cases x with
  | false =>
    have E : Hid (z = false) := by rw [Hid, ← HE.out]; simp
    clear HE
    go_enter Tryz.func281, Tryz.ntmps281
    go_wp2_with (first | (go_at_call 219; refine (c1 _).mono ?_; rintro e w' ⟨rfl, hw⟩; subst w'))
    go_ret
    exact ⟨ret_bool (by rw [E.out]; simp), b1⟩
  | true =>
    by_cases k0 : k = 0
    · have E : Hid (z = false) := by rw [Hid, ← HE.out]; simp [k0]
      have kn : (k != 0) = false := by simpa using k0
      clear HE k0
      go_enter Tryz.func281, Tryz.ntmps281
      go_wp2_with (first | (go_at_call 219; refine (c1 _).mono ?_; rintro e w' ⟨rfl, hw⟩; subst w'))
      go_ret
      exact ⟨ret_bool (by rw [E.out]; simp), b1⟩
    · have E : Hid (z = true) := by rw [Hid, ← HE.out]; simp [k0]
      have kn : (k != 0) = true := by simpa using k0
      clear HE k0
      go_enter Tryz.func281, Tryz.ntmps281
      go_wp2_with (first | (go_at_call 219; refine (c1 _).mono ?_; rintro e w' ⟨rfl, hw⟩; subst w') | (go_at_call 222; refine (c2 _).mono ?_; rintro e w2 ⟨rfl, b2⟩))
      go_ret
      exact ⟨ret_bool (by rw [E.out]; simp), b1.trans (b2.mono b1.size)⟩

set_option maxRecDepth 20000 in
set_option maxHeartbeats 400000 in
theorem inobody_any (f : Nat → Int) (kd ho tu i k d : Int) (w : World) :
    Calls Tryz.prog 272 #[.agg (heA f kd ho tu), .agg (wiA i k d)] w fun e w' => e = .returned (.bool false) ∧ Below w.heap.size w w' := by
  have b1 : Below w.heap.size w ((w.alloc (.cells (heA f kd ho tu) 171)).alloc (.cells (wiA i k d) 298)) := ((Below.refl _ _).alloc (Nat.le_refl _) _).alloc (by simp) _
  unfold wiA heA at *
  go_enter Tryz.func272, Tryz.ntmps272
  go_wp2
  go_ret
  exact ⟨rfl, b1⟩

/- Two new blocks: the holding and the wish. -/
def HW2 (w w1 : World) (f : Nat → Int) (kd ho tu i k d : Int) : Prop :=
  StB w1 w.heap.size 171 (heA f kd ho tu) ∧ StB w1 (w.heap.size + 1) 298 (wiA i k d) ∧ Below w.heap.size w w1
theorem HW2.start (w : World) (f : Nat → Int) (kd ho tu i k d : Int) : HW2 w ((w.alloc (.cells (heA f kd ho tu) 171)).alloc (.cells (wiA i k d) 298)) f kd ho tu i k d := by
  refine ⟨(StB.new _ _ _).alloc _, ?_, ((Below.refl _ _).alloc (Nat.le_refl _) _).alloc (by simp) _⟩
  have := StB.new (w.alloc (.cells (heA f kd ho tu) 171)) 298 (wiA i k d)
  rw [World.size_alloc] at this
  exact this
theorem HW2.next {w w1 w2 : World} {f : Nat → Int} {kd ho tu i k d : Int} (h : HW2 w w1 f kd ho tu i k d) (b : Below w1.heap.size w1 w2) : HW2 w w2 f kd ho tu i k d :=
  ⟨h.1.below b, h.2.1.below b, h.2.2.trans (b.mono h.2.2.size)⟩
theorem HW2.drew {w w1 : World} {f : Nat → Int} {kd ho tu i k d : Int} (h : HW2 w w1 f kd ho tu i k d) : HW2 w w1.drew f kd ho tu i k d := ⟨h.1, h.2.1, h.2.2.drew⟩

def strI (f : Nat → Int) (i : Int) : Bool := !(inI i 0 3 && decide (f i.toNat ≠ 0))
set_option maxRecDepth 20000 in
set_option maxHeartbeats 1000000 in
theorem istrange_any (f : Nat → Int) (kd ho tu i k d : Int) (w : World) :
    Calls Tryz.prog 278 #[.agg (heA f kd ho tu), .agg (wiA i k d)] w fun e w' => e = .returned (.bool (strI f i)) ∧ Below w.heap.size w w' := by
  obtain ⟨w1, hw1⟩ : ∃ w1, w1 = (w.alloc (.cells (heA f kd ho tu) 171)).alloc (.cells (wiA i k d) 298) := ⟨_, rfl⟩
  have HS : Hid (HW2 w w1 f kd ho tu i k d) := by rw [hw1]; exact HW2.start _ _ _ _ _ _ _ _
  have c1 := iregd_any f i w1
  obtain ⟨x, hx⟩ : ∃ x, x = (inI i 0 3 && decide (f i.toNat ≠ 0)) := ⟨_, rfl⟩
  unfold strI
  rw [← hx] at c1 ⊢
  clear hx
  unfold kA at c1
  rw [heA, wiA] at hw1 ⊢
  go_enter Tryz.func278, Tryz.ntmps278
  go_wp2_with fail
  rw [← hw1]
  refine c1.mono ?_
  rintro e w2 ⟨rfl, b2⟩
  replace HS := HS.out.next b2
  clear hw1 c1 b2
  go_wp2
  go_ret
  exact ⟨rfl, HS.2.2⟩
end Go.Proofs.YtlkkpolnllbljaaGreatDoor
/- What the program's actions do: unheld, turned, heldBy, left, cleared, rekeyed. -/
namespace Go.Proofs.YtlkkpolnllbljaaGreatDoor
open Go.ChangeShapes Go.WideShapes Go.ChangeAt Go.RowKit

/- Two new blocks: the holding, and what is answered. -/
def HR (w w1 : World) (f : Nat → Int) (kd ho tu : Int) : Prop :=
  StB w1 w.heap.size 171 (heA f kd ho tu) ∧ StB w1 (w.heap.size + 1) 171 he0A ∧ Below w.heap.size w w1
theorem HR.start (w : World) (f : Nat → Int) (kd ho tu : Int) : HR w ((w.alloc (.cells (heA f kd ho tu) 171)).alloc (.cells he0A 171)) f kd ho tu := by
  refine ⟨(StB.new _ _ _).alloc _, ?_, ((Below.refl _ _).alloc (Nat.le_refl _) _).alloc (by simp) _⟩
  have := StB.new (w.alloc (.cells (heA f kd ho tu) 171)) 171 he0A
  rw [World.size_alloc] at this
  exact this
theorem HR.put {w w1 : World} {f g : Nat → Int} {kd ho tu kd' ho' tu' : Int} (h : HR w w1 f kd ho tu) (j : Nat) (x : Int) (e : (heA f kd ho tu).setIfInBounds j (.int .i64 x) = heA g kd' ho' tu') : HR w (w1.setCell ⟨w.heap.size, j, none⟩ (.int .i64 x)) g kd' ho' tu' :=
  ⟨h.1.put j _ e, h.2.1.kept (grownSet w1 _ j _) (by simp), h.2.2.grown (grownSet w1 _ j _) h.2.2.size (fun x e => by cases e; exact Nat.le_refl _)⟩

set_option maxRecDepth 20000 in
set_option maxHeartbeats 1000000 in
theorem iunheld_any (f : Nat → Int) (kd ho tu : Int) (w : World) :
    Calls Tryz.prog 286 #[.agg (heA f kd ho tu)] w fun e w' => e = .returned (.agg (heA f 0 (-1) tu)) ∧ Below w.heap.size w w' := by
  obtain ⟨w1, hw1⟩ : ∃ w1, w1 = (w.alloc (.cells (heA f kd ho tu) 171)).alloc (.cells he0A 171) := ⟨_, rfl⟩
  have HS : Hid (HR w w1 f kd ho tu) := by rw [hw1]; exact HR.start _ _ _ _ _
  obtain ⟨w2, hw2⟩ : ∃ w2, w2 = (w1.setCell ⟨w.heap.size, 4, none⟩ (.int .i64 0)).setCell ⟨w.heap.size, 5, none⟩ (.int .i64 (-1)) := ⟨_, rfl⟩
  have HS2 : Hid (HR w w2 f 0 (-1) tu) := by rw [hw2]; exact (HS.out.put 4 0 rfl).put 5 (-1) rfl
  obtain ⟨-, -, -, -, m4, m5, -⟩ := heA_cells HS.out.1
  have f4 := HS.out.1.frozen 4
  have f5 := HS.out.1.frozen 5
  clear HS
  rw [heA, he0A, heA] at hw1
  rw [heA]
  go_enter Tryz.func286, Tryz.ntmps286
  go_upto_region 1 with fail
  rw [← hw1]
  clear hw1
  go_upto_region 2 with fail
  rw [← hw2]
  clear hw2 m4 m5 f4 f5
  go_wp2_with (first | (refine wpList_getS Tryz.isHeld rfl _ rfl w.heap.size rfl (heA f 0 (-1) tu) rfl HS2.out.1 ?_) | (refine wpList_putS Tryz.isHeld rfl _ _ rfl (w.heap.size + 1) (heA f 0 (-1) tu) he0A rfl rfl rfl rfl (heA_one _ _ _ _) HS2.out.2.1 ?_; intro w3 h3 g3))
  refine bodyPost_ret (results_S Tryz.isHeld rfl _ _ (w.heap.size + 1) _ rfl rfl h3) rfl ?_
  exact ⟨rfl, HS2.out.2.2.grown g3 HS2.out.2.2.size (fun k e => by cases e; omega)⟩

set_option maxRecDepth 20000 in
set_option maxHeartbeats 1000000 in
theorem iturned_any (f : Nat → Int) (kd ho tu : Int) (w : World) (t0 : 0 ≤ tu) (t1 : tu ≤ 1000000000) :
    Calls Tryz.prog 287 #[.agg (heA f kd ho tu)] w fun e w' => e = .returned (.agg (heA f kd ho (turnI tu))) ∧ Below w.heap.size w w' := by
  obtain ⟨w1, hw1⟩ : ∃ w1, w1 = (w.alloc (.cells (heA f kd ho tu) 171)).alloc (.cells he0A 171) := ⟨_, rfl⟩
  have HS : Hid (HR w w1 f kd ho tu) := by rw [hw1]; exact HR.start _ _ _ _ _
  obtain ⟨w2, hw2⟩ : ∃ w2, w2 = w1.setCell ⟨w.heap.size, 6, none⟩ (.int .i64 (turnI tu)) := ⟨_, rfl⟩
  have HS2 : Hid (HR w w2 f kd ho (turnI tu)) := by rw [hw2]; exact HS.out.put 6 (turnI tu) rfl
  obtain ⟨-, -, -, -, -, -, m6⟩ := heA_cells HS.out.1
  have f6 := HS.out.1.frozen 6
  have hwr : IntKind.i64.wrap (tu + 1) = tu + 1 := by rw [IntKind.wrap_i64]; omega
  clear HS
  rw [heA, he0A, heA] at hw1
  rw [heA]
  by_cases ht : tu = 1000000000
  · have htb : (tu == 1000000000) = true := by simpa using ht
    have e1 : turnI tu = 0 := by unfold turnI; rw [if_pos (by omega)]
    rw [e1] at hw2 HS2 ⊢
    clear ht e1 t0 t1 hwr
    go_enter Tryz.func287, Tryz.ntmps287
    go_upto_region 1 with fail
    rw [← hw1]
    clear hw1
    go_upto_region 4 with fail
    rw [← hw2]
    clear hw2 m6 f6
    go_wp2_with (first | (refine wpList_getS Tryz.isHeld rfl _ rfl w.heap.size rfl (heA f kd ho 0) rfl HS2.out.1 ?_) | (refine wpList_putS Tryz.isHeld rfl _ _ rfl (w.heap.size + 1) (heA f kd ho 0) he0A rfl rfl rfl rfl (heA_one _ _ _ _) HS2.out.2.1 ?_; intro w3 h3 g3))
    refine bodyPost_ret (results_S Tryz.isHeld rfl _ _ (w.heap.size + 1) _ rfl rfl h3) rfl ?_
    exact ⟨rfl, HS2.out.2.2.grown g3 HS2.out.2.2.size (fun k e => by cases e; omega)⟩
  · have htb : (tu == 1000000000) = false := by simpa using ht
    have e1 : turnI tu = tu + 1 := by unfold turnI; rw [if_neg (by omega)]
    rw [e1] at hw2 HS2 ⊢
    clear ht e1 t0 t1
    go_enter Tryz.func287, Tryz.ntmps287
    go_upto_region 1 with fail
    rw [← hw1]
    clear hw1
    go_upto_region 4 with fail
    rw [← hw2]
    clear hw2 m6 f6 hwr
    go_wp2_with (first | (refine wpList_getS Tryz.isHeld rfl _ rfl w.heap.size rfl (heA f kd ho (tu + 1)) rfl HS2.out.1 ?_) | (refine wpList_putS Tryz.isHeld rfl _ _ rfl (w.heap.size + 1) (heA f kd ho (tu + 1)) he0A rfl rfl rfl rfl (heA_one _ _ _ _) HS2.out.2.1 ?_; intro w3 h3 g3))
    refine bodyPost_ret (results_S Tryz.isHeld rfl _ _ (w.heap.size + 1) _ rfl rfl h3) rfl ?_
    exact ⟨rfl, HS2.out.2.2.grown g3 HS2.out.2.2.size (fun k e => by cases e; omega)⟩

set_option maxRecDepth 20000 in
set_option maxHeartbeats 1000000 in
theorem iheldby_any (f : Nat → Int) (kd ho tu i k d : Int) (w : World) :
    Calls Tryz.prog 276 #[.agg (heA f kd ho tu), .agg (wiA i k d)] w fun e w' => e = .returned (.agg (heA f d (if allI d then -1 else i) tu)) ∧ Below w.heap.size w w' := by
  obtain ⟨w1, hw1⟩ : ∃ w1, w1 = ((w.alloc (.cells (heA f kd ho tu) 171)).alloc (.cells (wiA i k d) 298)).alloc (.cells he0A 171) := ⟨_, rfl⟩
  have HS : Hid (HW w w1 f kd ho tu i k d) := by rw [hw1]; exact HW.start _ _ _ _ _ _ _ _
  obtain ⟨-, -, -, -, m4, m5, -⟩ := heA_cells HS.out.1
  obtain ⟨p0, p1, p2⟩ := wiA_cells HS.out.2.1
  have f4 := HS.out.1.frozen 4
  have f5 := HS.out.1.frozen 5
  obtain ⟨w2, hw2⟩ : ∃ w2, w2 = ((w1.setCell ⟨w.heap.size, 4, none⟩ (.int .i64 d)).setCell ⟨w.heap.size, 5, none⟩ (.int .i64 i)).drew := ⟨_, rfl⟩
  have HS2 : Hid (HW w w2 f d i tu i k d) := by rw [hw2]; exact ((HS.out.put 4 d rfl).put 5 i rfl).drew
  have q2 : w2.cell? ⟨w.heap.size + 1, 2, none⟩ = some (.int .i64 d) := HS2.out.2.1.cell 2 rfl
  have c1 := fun wx => iall_any d wx
  obtain ⟨x, hx⟩ : ∃ x, x = allI d := ⟨_, rfl⟩
  rw [← hx]
  simp only [← hx] at c1
  clear hx
  rw [heA, wiA, he0A, heA] at hw1
  rw [heA, wiA]
  go_enter Tryz.func276, Tryz.ntmps276
  go_upto_region 1 with fail
  rw [← hw1]
  clear hw1
  go_region
  rw [← hw2]
  clear hw2 m4 m5 f4 f5 p0 p1 p2
  go_wp2_with fail
  refine (c1 _).mono ?_
  rintro e w3 ⟨rfl, b3⟩
  have HS3 := HS2.out.next b3
  clear b3 c1 HS2 q2
  cases x with
  | false =>
    have H3 : Hid (HW w w3 f d i tu i k d) := HS3
    clear HS3
    go_wp2_with (first | (refine wpList_getS Tryz.isHeld rfl _ rfl w.heap.size rfl (heA f d i tu) rfl H3.out.1 ?_) | (refine wpList_putS Tryz.isHeld rfl _ _ rfl (w.heap.size + 2) (heA f d i tu) he0A rfl rfl rfl rfl (heA_one _ _ _ _) H3.out.2.2.1 ?_; intro w5 h5 g5))
    refine bodyPost_ret (results_S Tryz.isHeld rfl _ _ (w.heap.size + 2) _ rfl rfl h5) rfl ?_
    exact ⟨rfl, H3.out.2.2.2.grown g5 H3.out.2.2.2.size (fun k e => by cases e; omega)⟩
  | true =>
    obtain ⟨w4, hw4⟩ : ∃ w4, w4 = w3.setCell ⟨w.heap.size, 5, none⟩ (.int .i64 (-1)) := ⟨_, rfl⟩
    have H4 : Hid (HW w w4 f d (-1) tu i k d) := by rw [hw4]; exact HS3.put 5 (-1) rfl
    obtain ⟨-, -, -, -, -, m5, -⟩ := heA_cells HS3.1
    have f5 := HS3.1.frozen 5
    clear HS3
    go_upto_region 4 with fail
    rw [← hw4]
    clear hw4 m5 f5
    go_wp2_with (first | (refine wpList_getS Tryz.isHeld rfl _ rfl w.heap.size rfl (heA f d (-1) tu) rfl H4.out.1 ?_) | (refine wpList_putS Tryz.isHeld rfl _ _ rfl (w.heap.size + 2) (heA f d (-1) tu) he0A rfl rfl rfl rfl (heA_one _ _ _ _) H4.out.2.2.1 ?_; intro w5 h5 g5))
    refine bodyPost_ret (results_S Tryz.isHeld rfl _ _ (w.heap.size + 2) _ rfl rfl h5) rfl ?_
    exact ⟨rfl, H4.out.2.2.2.grown g5 H4.out.2.2.2.size (fun k e => by cases e; omega)⟩

set_option maxRecDepth 20000 in
set_option maxHeartbeats 1000000 in
theorem ileft_any (f : Nat → Int) (kd ho tu i k d : Int) (w : World) :
    Calls Tryz.prog 279 #[.agg (heA f kd ho tu), .agg (wiA i k d)] w fun e w' => e = .returned (.agg (heA f (if holdsF f kd ho i then 0 else kd) (if holdsF f kd ho i then -1 else ho) tu)) ∧ Below w.heap.size w w' := by
  obtain ⟨w1, hw1⟩ : ∃ w1, w1 = ((w.alloc (.cells (heA f kd ho tu) 171)).alloc (.cells (wiA i k d) 298)).alloc (.cells he0A 171) := ⟨_, rfl⟩
  have HS : Hid (HW w w1 f kd ho tu i k d) := by rw [hw1]; exact HW.start _ _ _ _ _ _ _ _
  have c1 := iheldholds_any f kd ho tu i w1
  have c2 := fun wx => iunheld_any f kd ho tu wx
  obtain ⟨x, hx⟩ : ∃ x, x = holdsF f kd ho i := ⟨_, rfl⟩
  rw [← hx] at c1 ⊢
  clear hx
  rw [heA, wiA, he0A, heA] at hw1
  rw [heA] at c1
  conv in heA f kd ho tu => unfold heA
  rw [wiA]
  go_enter Tryz.func279, Tryz.ntmps279
  go_wp2_with fail
  rw [← hw1]
  refine c1.mono ?_
  rintro e w2 ⟨rfl, b2⟩
  have HS2 := HS.out.next b2
  clear hw1 c1 b2 HS
  have H2 : Hid (HW w w2 f kd ho tu i k d) := HS2
  clear HS2
  cases x with
  | false =>
    clear c2
    go_wp2_with (first | (refine wpList_getS Tryz.isHeld rfl _ rfl w.heap.size rfl (heA f kd ho tu) rfl H2.out.1 ?_) | (refine wpList_putS Tryz.isHeld rfl _ _ rfl (w.heap.size + 2) (heA f kd ho tu) he0A rfl rfl rfl rfl (heA_one _ _ _ _) H2.out.2.2.1 ?_; intro w5 h5 g5))
    refine bodyPost_ret (results_S Tryz.isHeld rfl _ _ (w.heap.size + 2) _ rfl rfl h5) rfl ?_
    exact ⟨rfl, H2.out.2.2.2.grown g5 H2.out.2.2.2.size (fun k e => by cases e; omega)⟩
  | true =>
    go_wp2_with (first | (refine wpList_getS Tryz.isHeld rfl _ rfl w.heap.size rfl (heA f kd ho tu) rfl H2.out.1 ?_) | (go_at_call 286; refine (c2 _).mono ?_; rintro e w3 ⟨rfl, b3⟩; have H3 : Hid (HW w w3 f kd ho tu i k d) := H2.out.next b3; clear b3) | (refine wpList_putS Tryz.isHeld rfl _ _ rfl (w.heap.size + 2) (heA f 0 (-1) tu) he0A rfl rfl rfl rfl (heA_one _ _ _ _) H3.out.2.2.1 ?_; intro w5 h5 g5))
    refine bodyPost_ret (results_S Tryz.isHeld rfl _ _ (w.heap.size + 2) _ rfl rfl h5) rfl ?_
    exact ⟨rfl, H3.out.2.2.2.grown g5 H3.out.2.2.2.size (fun k e => by cases e; omega)⟩

set_option maxRecDepth 20000 in
set_option maxHeartbeats 1000000 in
theorem icleared_any (f : Nat → Int) (kd ho tu i k d : Int) (w : World) (t0 : 0 ≤ tu) (t1 : tu ≤ 1000000000) :
    Calls Tryz.prog 280 #[.agg (heA f kd ho tu), .agg (wiA i k d)] w fun e w' => e = .returned (.agg (heA (fun _ => 0) 0 (-1) (turnI tu))) ∧ Below w.heap.size w w' := by
  obtain ⟨w1, hw1⟩ : ∃ w1, w1 = ((w.alloc (.cells (heA f kd ho tu) 171)).alloc (.cells (wiA i k d) 298)).alloc (.cells he0A 171) := ⟨_, rfl⟩
  have HS : Hid (HW w w1 f kd ho tu i k d) := by rw [hw1]; exact HW.start _ _ _ _ _ _ _ _
  have c2 := fun wx => iunheld_any (fun _ => 0) kd ho tu wx
  have c3 := fun wx => iturned_any (fun _ => 0) 0 (-1) tu wx t0 t1
  obtain ⟨w2, hw2⟩ : ∃ w2, w2 = (((w1.setCell ⟨w.heap.size, 0, none⟩ (.int .i64 0)).setCell ⟨w.heap.size, 1, none⟩ (.int .i64 0)).setCell ⟨w.heap.size, 2, none⟩ (.int .i64 0)).setCell ⟨w.heap.size, 3, none⟩ (.int .i64 0) := ⟨_, rfl⟩
  have H2 : Hid (HW w w2 (fun _ => 0) kd ho tu i k d) := by
    rw [hw2]
    exact (((HS.out.put (g := updF f 0 0) (kd' := kd) (ho' := ho) (tu' := tu) 0 0 rfl).put (g := updF (updF f 0 0) 1 0) (kd' := kd) (ho' := ho) (tu' := tu) 1 0 rfl).put (g := updF (updF (updF f 0 0) 1 0) 2 0) (kd' := kd) (ho' := ho) (tu' := tu) 2 0 rfl).put 3 0 rfl
  obtain ⟨m0, m1, m2, m3, -, -, -⟩ := heA_cells HS.out.1
  have f0 := HS.out.1.frozen 0
  have f1 := HS.out.1.frozen 1
  have f2 := HS.out.1.frozen 2
  have f3 := HS.out.1.frozen 3
  clear HS
  rw [heA, wiA, he0A, heA] at hw1
  conv in heA f kd ho tu => unfold heA
  rw [wiA]
  go_enter Tryz.func280, Tryz.ntmps280
  go_upto_region 1 with fail
  rw [← hw1]
  clear hw1
  go_upto_region 2 with fail
  rw [← hw2]
  clear hw2 m0 m1 m2 m3 f0 f1 f2 f3
  go_wp2_with (first | (refine wpList_getS Tryz.isHeld rfl _ rfl w.heap.size rfl (heA (fun _ => 0) kd ho tu) rfl H2.out.1 ?_) | (go_at_call 286; refine (c2 _).mono ?_; rintro e w3 ⟨rfl, b3⟩; have H3 : Hid (HW w w3 (fun _ => 0) kd ho tu i k d) := H2.out.next b3; clear b3) | (go_at_call 287; refine (c3 _).mono ?_; rintro e w4 ⟨rfl, b4⟩; have H4 : Hid (HW w w4 (fun _ => 0) kd ho tu i k d) := H3.out.next b4; clear b4) | (refine wpList_putS Tryz.isHeld rfl _ _ rfl (w.heap.size + 2) (heA (fun _ => 0) 0 (-1) (turnI tu)) he0A rfl rfl rfl rfl (heA_one _ _ _ _) H4.out.2.2.1 ?_; intro w5 h5 g5))
  refine bodyPost_ret (results_S Tryz.isHeld rfl _ _ (w.heap.size + 2) _ rfl rfl h5) rfl ?_
  exact ⟨rfl, H4.out.2.2.2.grown g5 H4.out.2.2.2.size (fun k e => by cases e; omega)⟩
end Go.Proofs.YtlkkpolnllbljaaGreatDoor
/- The key of one, as the program asks it of its row: keyOf. -/
namespace Go.Proofs.YtlkkpolnllbljaaGreatDoor
open Go.ChangeShapes Go.WideShapes Go.ChangeAt Go.RowKit

def keyF (f : Nat → Int) (i : Int) : Int := if inI i 0 3 then f i.toNat else 0
set_option maxRecDepth 20000 in
set_option maxHeartbeats 400000 in
theorem ikeyof_any (f : Nat → Int) (i : Int) (w : World) :
    Calls Tryz.prog 203 #[.agg (kA f), .int .i64 i] w fun e w' => e = .returned (.int .i64 (keyF f i)) ∧ Below w.heap.size w w' := by
  have b1 : Below w.heap.size w (w.alloc (.cells (kA f) 169)) := (Below.refl _ _).alloc (Nat.le_refl _) _
  have H1 : StB (w.alloc (.cells (kA f) 169)) w.heap.size 169 (kA f) := StB.new _ _ _
  have c1 := fun wx => iperson_any i wx
  by_cases h : 0 ≤ i ∧ i < 4
  · have hin : inI i 0 3 = true := by simp [inI]; omega
    have HK : Hid (keyF f i = f i.toNat) := by simp [Hid, keyF, hin]
    simp only [hin] at c1
    obtain ⟨j, hj, hj4⟩ : ∃ j : Nat, i = (j : Int) ∧ j < 4 := ⟨i.toNat, by omega, by omega⟩
    subst hj
    obtain ⟨y, hy⟩ : ∃ y, y = f j := ⟨_, rfl⟩
    have hc : (w.alloc (.cells (kA f) 169)).cell? ⟨w.heap.size, j, none⟩ = some (.int .i64 y) := by
      rw [hy]; exact H1.cell j (kA_at f j hj4)
    have HY : Hid (y = keyF f j) := by rw [Hid, HK.out, hy]; rfl
    rw [← HY.out]
    have hl : (j : Int) < 4 := by omega
    clear hin hy h H1
    unfold kA at *
    go_enter Tryz.func203, Tryz.ntmps203
    go_wp2_with (first | (go_at_call 26; refine (c1 _).mono ?_; rintro e w' ⟨rfl, hw⟩; subst w'))
    go_ret
    exact ⟨rfl, b1⟩
  · have hin : inI i 0 3 = false := by simp [inI]; omega
    have HK : keyF f i = 0 := by simp [keyF, hin]
    rw [HK]
    simp only [hin] at c1
    clear h hin H1 HK
    unfold kA at *
    go_enter Tryz.func203, Tryz.ntmps203
    go_wp2_with (first | (go_at_call 26; refine (c1 _).mono ?_; rintro e w' ⟨rfl, hw⟩; subst w'))
    go_ret
    exact ⟨rfl, b1⟩
end Go.Proofs.YtlkkpolnllbljaaGreatDoor
/- What the program's actions ask and do, on: keyOf, anyBeside, a key among the keys, isTaken, hasNoSuchKey, rekeyed. -/
namespace Go.Proofs.YtlkkpolnllbljaaGreatDoor
open Go.ChangeShapes Go.WideShapes Go.ChangeAt Go.RowKit

set_option maxRecDepth 20000 in
set_option maxHeartbeats 400000 in
theorem ibeside_any (f : Nat → Int) (i : Int) (w : World) (i0 : 0 ≤ i) (i1 : i < 4) :
    Calls Tryz.prog 289 #[.agg (kA f), .int .i64 i] w fun e w' => e = .returned (.bool (anyF (updF f i.toNat 0))) ∧ Below w.heap.size w w' := by
  obtain ⟨j, hj, hj4⟩ : ∃ j : Nat, i = (j : Int) ∧ j < 4 := ⟨i.toNat, by omega, by omega⟩
  subst hj
  rw [Int.toNat_natCast]
  obtain ⟨w1, hw1⟩ : ∃ w1, w1 = w.alloc (.cells (kA f) 169) := ⟨_, rfl⟩
  have b1 : Hid (Below w.heap.size w w1) := by rw [hw1]; exact (Below.refl _ _).alloc (Nat.le_refl _) _
  have H1 : StB w1 w.heap.size 169 (kA f) := by rw [hw1]; exact StB.new _ _ _
  obtain ⟨w2, hw2⟩ : ∃ w2, w2 = w1.setCell ⟨w.heap.size, j, none⟩ (.int .i64 0) := ⟨_, rfl⟩
  have H2 : Hid (StB w2 w.heap.size 169 (kA (updF f j 0)) ∧ Below w.heap.size w w2) := by
    rw [hw2]
    exact ⟨H1.put j _ (kA_set f 0 j hj4), b1.out.grown (grownSet w1 _ j _) b1.out.size (fun k e => by cases e; exact Nat.le_refl _)⟩
  have hc := H1.cell j (kA_at f j hj4)
  have hf := H1.frozen j
  have c1 := ianyreg_any (updF f j 0) w2
  obtain ⟨x, hx⟩ : ∃ x, x = anyF (updF f j 0) := ⟨_, rfl⟩
  rw [← hx] at c1 ⊢
  clear hx H1 b1
  rw [kA] at hw1 ⊢
  go_enter Tryz.func289, Tryz.ntmps289
  go_upto_region 1 with fail
  rw [← hw1]
  clear hw1
  go_upto_region 2 with fail
  rw [← hw2]
  clear hw2 hc hf
  go_wp2_with (first | (refine wpList_getK rfl _ rfl w.heap.size rfl _ H2.out.1 ?_) | (go_at_call 221; refine c1.mono ?_; rintro e w3 ⟨rfl, b3⟩))
  go_ret
  exact ⟨rfl, H2.out.2.trans (b3.mono H2.out.2.size)⟩

def hasF (f : Nat → Int) (k : Int) : Nat → Bool
  | 0 => false
  | j + 1 => hasF f k j || decide (f j = k)
theorem hasF_up (f : Nat → Int) (k : Int) (j : Nat) (hj : j < 4) (h : f j = k) : hasF f k 4 = true := by
  obtain rfl | rfl | rfl | rfl : j = 0 ∨ j = 1 ∨ j = 2 ∨ j = 3 := by omega
  all_goals simp [hasF, h]

set_option maxRecDepth 20000 in
set_option maxHeartbeats 1000000 in
theorem iindex_any (f : Nat → Int) (k : Int) (g : Nat) (w : World) (hc : ∀ j, j < 4 → w.cell? ⟨g, j, none⟩ = some (.int .i64 (f j))) :
    Calls Tryz.prog 290 #[.slice (some ⟨g, 0, none⟩) 4 4, .int .i64 k] w fun e w' => ∃ x : Int, e = .returned (.int .i64 x) ∧ decide (0 ≤ x) = hasF f k 4 ∧ w' = w := by
  go_enter Tryz.func290, Tryz.ntmps290
  go_wp2_with fail
  go_loop [8] (fun i => ∃ j : Nat, j ≤ 4 ∧ i = .int .i64 j ∧ hasF f k j = false) (fun i => (4 - intOf i).toNat)
  case atStart => exact ⟨0, by omega, rfl, rfl⟩
  case round =>
    obtain ⟨j, hj, rfl, hh⟩ := hrel
    have HH : Hid (hasF f k j = false) := hh
    clear hh
    by_cases hlt : (j : Int) < 4
    · have hcj := hc j (by omega)
      obtain ⟨y, hy⟩ : ∃ y, y = f j := ⟨_, rfl⟩
      rw [← hy] at hcj
      have HY : Hid (y = f j) := hy
      clear hy
      by_cases e : k = y
      · have HU : Hid (hasF f k 4 = true) := hasF_up f k j (by omega) (by rw [← HY.out, e])
        have eb : (k == y) = true := by simpa using e
        clear e
        go_wp2
        go_ret
        exact ⟨_, rfl, by rw [HU.out]; simp, rfl⟩
      · have eb : (k == y) = false := by simpa using e
        have HU : Hid (hasF f k (j + 1) = false) := by
          rw [Hid, hasF, HH.out, ← HY.out]
          simp [Ne.symm e]
        clear e
        go_wp2
        go_round
        case rel => exact ⟨j + 1, by omega, by go_num, HU.out⟩
        case measure => simp [intOf]; omega
    · go_wp2
      go_ret
      have : j = 4 := by omega
      subst this
      exact ⟨_, rfl, by rw [HH.out]; rfl, rfl⟩

set_option maxRecDepth 20000 in
set_option maxHeartbeats 400000 in
theorem icontains_any (f : Nat → Int) (k : Int) (g : Nat) (w : World) (hc : ∀ j, j < 4 → w.cell? ⟨g, j, none⟩ = some (.int .i64 (f j))) :
    Calls Tryz.prog 288 #[.slice (some ⟨g, 0, none⟩) 4 4, .int .i64 k] w fun e w' => e = .returned (.bool (hasF f k 4)) ∧ w' = w := by
  have c1 := iindex_any f k g w hc
  clear hc
  go_enter Tryz.func288, Tryz.ntmps288
  go_wp2_with fail
  refine c1.mono ?_
  rintro e w' ⟨x, rfl, hx, hw⟩
  subst w'
  have HX : Hid (decide (0 ≤ x) = hasF f k 4) := hx
  clear hx
  go_wp2
  go_ret
  exact ⟨ret_bool (by rw [← HX.out]), rfl⟩

def takenI (f : Nat → Int) (kd ho i d : Int) : Bool := strI f i || ((kd != 0) && ((kd != d) || !holdsF f kd ho i))
set_option maxRecDepth 20000 in
set_option maxHeartbeats 2000000 in
theorem itaken_any (f : Nat → Int) (kd ho tu i k d : Int) (w : World) :
    Calls Tryz.prog 275 #[.agg (heA f kd ho tu), .agg (wiA i k d)] w fun e w' => e = .returned (.bool (takenI f kd ho i d)) ∧ Below w.heap.size w w' := by
  obtain ⟨w1, hw1⟩ : ∃ w1, w1 = (w.alloc (.cells (heA f kd ho tu) 171)).alloc (.cells (wiA i k d) 298) := ⟨_, rfl⟩
  have HS : Hid (HW2 w w1 f kd ho tu i k d) := by rw [hw1]; exact HW2.start _ _ _ _ _ _ _ _
  have c1 := istrange_any f kd ho tu i k d w1
  have c2 := fun wx => iheldholds_any f kd ho tu i wx
  have HE : Hid (takenI f kd ho i d = (strI f i || ((kd != 0) && ((kd != d) || !holdsF f kd ho i)))) := rfl
  obtain ⟨x, hx⟩ : ∃ x, x = strI f i := ⟨_, rfl⟩
  obtain ⟨y, hy⟩ : ∃ y, y = holdsF f kd ho i := ⟨_, rfl⟩
  obtain ⟨r, hr⟩ : ∃ r, r = takenI f kd ho i d := ⟨_, rfl⟩
  rw [← hr, ← hx, ← hy] at HE
  rw [← hr]
  rw [← hx] at c1
  simp only [← hy] at c2
  clear hx hy hr
  obtain ⟨a0, ha0⟩ : ∃ a0, a0 = (kd != 0) := ⟨_, rfl⟩
  obtain ⟨a1, ha1⟩ : ∃ a1, a1 = (kd != d) := ⟨_, rfl⟩
  rw [← ha0, ← ha1] at HE
  rw [heA, wiA] at hw1 c1 ⊢
  unfold heA at c2
  go_enter Tryz.func275, Tryz.ntmps275
  go_wp2_with fail
  rw [← hw1]
  refine c1.mono ?_
  rintro e w2 ⟨rfl, b2⟩
  have HS2 : Hid (HW2 w w2 f kd ho tu i k d) := HS.out.next b2
  obtain ⟨m0, m1, m2, m3, m4, m5, m6⟩ := heA_cells HS2.out.1
  obtain ⟨p0, p1, p2⟩ := wiA_cells HS2.out.2.1
  clear b2 c1 HS hw1
  cases x with
  | true =>
    clear c2 ha0 ha1
    go_wp2
    go_ret
    exact ⟨ret_bool (by rw [HE.out]; simp), HS2.out.2.2⟩
  | false =>
    cases a0 with
    | false =>
      have k0 : (kd != 0) = false := ha0.symm
      clear c2 ha1 ha0
      go_wp2
      go_ret
      exact ⟨ret_bool (by rw [HE.out]; simp), HS2.out.2.2⟩
    | true =>
      have k0 : (kd != 0) = true := ha0.symm
      clear ha0
      cases a1 with
      | true =>
        have k1 : (kd != d) = true := ha1.symm
        clear c2 ha1
        go_wp2
        go_ret
        exact ⟨ret_bool (by rw [HE.out]; simp), HS2.out.2.2⟩
      | false =>
        have k1 : (kd != d) = false := ha1.symm
        clear ha1
        go_wp2_with (first | (go_at_call 232; refine (c2 _).mono ?_; rintro e w3 ⟨rfl, b3⟩))
        go_ret
        exact ⟨ret_bool (by rw [HE.out]; simp), HS2.out.2.2.trans (b3.mono HS2.out.2.2.size)⟩
end Go.Proofs.YtlkkpolnllbljaaGreatDoor
/- What the program's actions ask and do, on: hasNoSuchKey, rekeyed. -/
namespace Go.Proofs.YtlkkpolnllbljaaGreatDoor
open Go.ChangeShapes Go.WideShapes Go.ChangeAt Go.RowKit

def lacksI (f : Nat → Int) (i k : Int) : Bool := strI f i || !hasF f k 4
theorem heA_at {w : World} {g : Nat} {f : Nat → Int} {kd ho tu : Int} (h : StB w g 171 (heA f kd ho tu)) : ∀ j, j < 4 → w.cell? ⟨g, j, none⟩ = some (.int .i64 (f j)) :=
  four (h.cell 0 rfl) (h.cell 1 rfl) (h.cell 2 rfl) (h.cell 3 rfl)
theorem heA_set (f : Nat → Int) (kd ho tu x : Int) : ∀ j, j < 4 → (heA f kd ho tu).setIfInBounds j (.int .i64 x) = heA (updF f j x) kd ho tu := four rfl rfl rfl rfl

set_option maxRecDepth 20000 in
set_option maxHeartbeats 2000000 in
theorem ilacks_any (f : Nat → Int) (kd ho tu i k d : Int) (w : World) :
    Calls Tryz.prog 282 #[.agg (heA f kd ho tu), .agg (wiA i k d)] w fun e w' => e = .returned (.bool (lacksI f i k)) ∧ Below w.heap.size w w' := by
  obtain ⟨w1, hw1⟩ : ∃ w1, w1 = (w.alloc (.cells (heA f kd ho tu) 171)).alloc (.cells (wiA i k d) 298) := ⟨_, rfl⟩
  have HS : Hid (HW2 w w1 f kd ho tu i k d) := by rw [hw1]; exact HW2.start _ _ _ _ _ _ _ _
  have HD : Hid (HW2 w w1.drew f kd ho tu i k d) := HS.out.drew
  have c1 := fun wx => istrange_any f kd ho tu i k d wx
  have c2 : ∀ wx : World, (∀ j, j < 4 → wx.cell? ⟨w.heap.size, j, none⟩ = some (Value.int .i64 (f j))) → _ := fun wx h => icontains_any f k w.heap.size wx h
  have HE : Hid (lacksI f i k = (strI f i || !hasF f k 4)) := rfl
  obtain ⟨x, hx⟩ : ∃ x, x = strI f i := ⟨_, rfl⟩
  obtain ⟨y, hy⟩ : ∃ y, y = hasF f k 4 := ⟨_, rfl⟩
  obtain ⟨r, hr⟩ : ∃ r, r = lacksI f i k := ⟨_, rfl⟩
  rw [← hr, ← hx, ← hy] at HE
  rw [← hr]
  simp only [← hx] at c1
  simp only [← hy] at c2
  clear hx hy hr
  obtain ⟨p, hp⟩ : ∃ p, p = fun x => HW2 w x f kd ho tu i k d := ⟨_, rfl⟩
  have HP : Hid (∀ x, p x → HW2 w x f kd ho tu i k d) := by rw [hp]; exact fun _ h => h
  have HN : Hid (∀ x w', p x → Below x.heap.size x w' → p w') := by rw [hp]; exact fun _ _ h b => h.next b
  have H0 : Hid (p w1.drew) := by rw [hp]; exact HD.out
  have hne : Nonempty (Kin p) := ⟨⟨_, H0.out⟩⟩
  have m0 : ∀ q : Kin p, q.x.cell? ⟨w.heap.size, 0, none⟩ = some (.int .i64 (f 0)) := fun q => (HP.out _ q.h).1.cell 0 rfl
  have m1 : ∀ q : Kin p, q.x.cell? ⟨w.heap.size, 1, none⟩ = some (.int .i64 (f 1)) := fun q => (HP.out _ q.h).1.cell 1 rfl
  have m2 : ∀ q : Kin p, q.x.cell? ⟨w.heap.size, 2, none⟩ = some (.int .i64 (f 2)) := fun q => (HP.out _ q.h).1.cell 2 rfl
  have m3 : ∀ q : Kin p, q.x.cell? ⟨w.heap.size, 3, none⟩ = some (.int .i64 (f 3)) := fun q => (HP.out _ q.h).1.cell 3 rfl
  have m4 : ∀ q : Kin p, q.x.cell? ⟨w.heap.size, 4, none⟩ = some (.int .i64 kd) := fun q => (HP.out _ q.h).1.cell 4 rfl
  have m5 : ∀ q : Kin p, q.x.cell? ⟨w.heap.size, 5, none⟩ = some (.int .i64 ho) := fun q => (HP.out _ q.h).1.cell 5 rfl
  have m6 : ∀ q : Kin p, q.x.cell? ⟨w.heap.size, 6, none⟩ = some (.int .i64 tu) := fun q => (HP.out _ q.h).1.cell 6 rfl
  have p0 : ∀ q : Kin p, q.x.cell? ⟨w.heap.size + 1, 0, none⟩ = some (.int .i64 i) := fun q => (HP.out _ q.h).2.1.cell 0 rfl
  have p1 : ∀ q : Kin p, q.x.cell? ⟨w.heap.size + 1, 1, none⟩ = some (.int .i64 k) := fun q => (HP.out _ q.h).2.1.cell 1 rfl
  have p2 : ∀ q : Kin p, q.x.cell? ⟨w.heap.size + 1, 2, none⟩ = some (.int .i64 d) := fun q => (HP.out _ q.h).2.1.cell 2 rfl
  unfold heA wiA at c1
  rw [heA, wiA] at hw1 ⊢
  go_enter Tryz.func282, Tryz.ntmps282
  go_upto_region 1 with fail
  rw [← hw1]
  clear hw1 HS hp
  have C2 : Hid (∀ q : Kin p, _) := fun q => c2 q.x (heA_at (HP.out _ q.h).1)
  clear c2
  cases x with
  | true =>
    refine wp_region_kin p (by kernel_rfl) (by kernel_rfl) H0.out ?_
    repeat (quiet_step (first | (go_at_call 278; exact Kin.call (c1 _) HN.out)))
    refine wpQuiet_nil ?_
    intro w2 hw'
    have H2 : p w2 := by { obtain ⟨q, rfl⟩ := hw'; exact q.h }
    clear hw'
    go_wp2
    go_ret
    exact ⟨ret_bool (by rw [HE.out]; simp), (HP.out _ H2).2.2⟩
  | false =>
    refine wp_region_kin p (by kernel_rfl) (by kernel_rfl) H0.out ?_
    repeat (quiet_step (first | (go_at_call 278; exact Kin.call (c1 _) HN.out) | (go_at_call 288; exact Kin.same (C2.out _))))
    refine wpQuiet_nil ?_
    intro w2 hw'
    have H2 : p w2 := by { obtain ⟨q, rfl⟩ := hw'; exact q.h }
    clear hw'
    go_wp2
    go_ret
    exact ⟨ret_bool (by rw [HE.out]; simp), (HP.out _ H2).2.2⟩

set_option maxRecDepth 20000 in
set_option maxHeartbeats 2000000 in
theorem irekeyed_any (f : Nat → Int) (kd ho tu i k d : Int) (w : World) (t0 : 0 ≤ tu) (t1 : tu ≤ 1000000000) (i0 : 0 ≤ i) (i1 : i < 4) :
    Calls Tryz.prog 273 #[.agg (heA f kd ho tu), .agg (wiA i k d)] w fun e w' => e = .returned (.agg (heA (updF f i.toNat k) (if midF (updF f i.toNat k) kd ho then kd else 0) (if midF (updF f i.toNat k) kd ho then ho else -1) (turnI tu))) ∧ Below w.heap.size w w' := by
  obtain ⟨j, hj, hj4⟩ : ∃ j : Nat, i = (j : Int) ∧ j < 4 := ⟨i.toNat, by omega, by omega⟩
  subst hj
  rw [Int.toNat_natCast]
  obtain ⟨w1, hw1⟩ : ∃ w1, w1 = ((w.alloc (.cells (heA f kd ho tu) 171)).alloc (.cells (wiA j k d) 298)).alloc (.cells he0A 171) := ⟨_, rfl⟩
  have HS : Hid (HW w w1 f kd ho tu j k d) := by rw [hw1]; exact HW.start _ _ _ _ _ _ _ _
  obtain ⟨w2, hw2⟩ : ∃ w2, w2 = w1.setCell ⟨w.heap.size, j, none⟩ (.int .i64 k) := ⟨_, rfl⟩
  have H2 : Hid (HW w w2 (updF f j k) kd ho tu j k d) := by rw [hw2]; exact HS.out.put j k (heA_set f kd ho tu k j hj4)
  obtain ⟨p0, p1, p2⟩ := wiA_cells HS.out.2.1
  have hc := heA_at HS.out.1 j hj4
  have hf := HS.out.1.frozen j
  obtain ⟨g, hg⟩ : ∃ g, g = updF f j k := ⟨_, rfl⟩
  rw [← hg] at H2 ⊢
  have c1 := fun wx => iholderok_any g kd ho tu wx
  have c2 := fun wx => iunheld_any g kd ho tu wx
  have c3 := fun wx => iturned_any g kd ho tu wx t0 t1
  have c4 := fun wx => iturned_any g 0 (-1) tu wx t0 t1
  obtain ⟨x, hx⟩ : ∃ x, x = midF g kd ho := ⟨_, rfl⟩
  rw [← hx]
  simp only [← hx] at c1
  have hl : (j : Int) < 4 := by omega
  clear hx hg HS t0 t1 i0 i1 hj4
  rw [heA, wiA, he0A, heA] at hw1
  conv in heA f kd ho tu => unfold heA
  rw [wiA]
  go_enter Tryz.func273, Tryz.ntmps273
  go_upto_region 1 with fail
  rw [← hw1]
  clear hw1
  go_upto_region 2 with fail
  rw [← hw2]
  clear hw2 p0 p1 p2 hc hf
  cases x with
  | true =>
    clear c2 c4
    go_wp2_with (first | (refine wpList_getS Tryz.isHeld rfl _ rfl w.heap.size rfl (heA g kd ho tu) rfl H3.out.1 ?_) | (refine wpList_getS Tryz.isHeld rfl _ rfl w.heap.size rfl (heA g kd ho tu) rfl H2.out.1 ?_) | (go_at_call 183; refine (c1 _).mono ?_; rintro e w3 ⟨rfl, b3⟩; have H3 : Hid (HW w w3 g kd ho tu j k d) := H2.out.next b3; clear b3) | (go_at_call 287; refine (c3 _).mono ?_; rintro e w4 ⟨rfl, b4⟩; have H4 : Hid (HW w w4 g kd ho tu j k d) := H3.out.next b4; clear b4) | (refine wpList_putS Tryz.isHeld rfl _ _ rfl (w.heap.size + 2) (heA g kd ho (turnI tu)) he0A rfl rfl rfl rfl (heA_one _ _ _ _) H4.out.2.2.1 ?_; intro w5 h5 g5))
    refine bodyPost_ret (results_S Tryz.isHeld rfl _ _ (w.heap.size + 2) _ rfl rfl h5) rfl ?_
    exact ⟨rfl, H4.out.2.2.2.grown g5 H4.out.2.2.2.size (fun k e => by cases e; omega)⟩
  | false =>
    clear c3
    go_upto_region 3 with (first | (refine wpList_getS Tryz.isHeld rfl _ rfl w.heap.size rfl (heA g kd ho tu) rfl H2.out.1 ?_) | (go_at_call 183; refine (c1 _).mono ?_; rintro e w3 ⟨rfl, b3⟩; have H3 : Hid (HW w w3 g kd ho tu j k d) := H2.out.next b3; clear b3))
    clear H2 c1
    go_upto_region 4 with (first | (refine wpList_getS Tryz.isHeld rfl _ rfl w.heap.size rfl (heA g kd ho tu) rfl H3.out.1 ?_) | (go_at_call 286; refine (c2 _).mono ?_; rintro e w4 ⟨rfl, b4⟩; have H4 : Hid (HW w w4 g kd ho tu j k d) := H3.out.next b4; clear b4) | (refine wpList_putS Tryz.isHeld rfl _ _ rfl w.heap.size (heA g 0 (-1) tu) (heA g kd ho tu) rfl rfl rfl rfl (heA_one _ _ _ _) H4.out.1 ?_; intro w5 h5 g5; have H5 : Hid (HW w w5 g 0 (-1) tu j k d) := H4.out.set h5 g5; clear h5 g5))
    clear H3 H4 c2
    go_wp2_with (first | (refine wpList_getS Tryz.isHeld rfl _ rfl w.heap.size rfl (heA g 0 (-1) tu) rfl H5.out.1 ?_) | (go_at_call 287; refine (c4 _).mono ?_; rintro e w6 ⟨rfl, b6⟩; have H6 : Hid (HW w w6 g 0 (-1) tu j k d) := H5.out.next b6; clear b6) | (refine wpList_putS Tryz.isHeld rfl _ _ rfl (w.heap.size + 2) (heA g 0 (-1) (turnI tu)) he0A rfl rfl rfl rfl (heA_one _ _ _ _) H6.out.2.2.1 ?_; intro w7 h7 g7))
    refine bodyPost_ret (results_S Tryz.isHeld rfl _ _ (w.heap.size + 2) _ rfl rfl h7) rfl ?_
    exact ⟨rfl, H6.out.2.2.2.grown g7 H6.out.2.2.2.size (fun k e => by cases e; omega)⟩
end Go.Proofs.YtlkkpolnllbljaaGreatDoor
