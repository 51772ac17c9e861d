/- The program's refusals: what they wrap, and what is asked of them (refusedFor, refusedByDisk, refusedByAction, statusOf, textOf). -/
import Derived.Test.YtpdggofaobmnlaaGreatDoorM24
import Derived.Deep.DeepCutAuto
import Derived.Test.YtpdggofaobmnlaaGreatDoorM3
import Derived.Test.YtpdggofaobmnlaaGreatDoorM22
import Derived.Test.YtpdggofaobmnlaaGreatDoorM4
namespace Go.Proofs.YtpdggofaobmnlaaGreatDoor
open Go.ChangeShapes Go.WideShapes Go.ChangeAt Go.RowKit

/- Where the four reasons lie. -/
structure Four where
  n : Addr
  r : Addr
  u : Addr
  c : Addr
def Four.at (f : Four) (st : Int) : Addr := if st = 1 then f.r else if st = 2 then f.u else if st = 3 then f.c else f.n
def rfV (f : Four) (st : Int) (tx : Bs) : Value := .iface 99 (.agg #[.iface 247 (.pointer (some (f.at st))), .string ⟨tx.toArray⟩])
def errV (f : Four) (st : Int) (tx : Bs) : Value := if st = 0 then .nilIface else rfV f st tx
theorem errV_no (f : Four) (tx : Bs) : errV f 0 tx = .nilIface := rfl
theorem errV_yes (f : Four) {st : Int} (h : st ≠ 0) (tx : Bs) : errV f st tx = rfV f st tx := by unfold errV; rw [if_neg h]
def Held (w : World) (a : Addr) : Prop := ∃ c t, w.heap[a.block]? = some (.cells c t (0, 0))
theorem Held.below {w w' : World} {a : Addr} (h : Held w a) (b : Below w.heap.size w w') : Held w' a := by
  obtain ⟨c, t, h⟩ := h
  have hl : a.block < w.heap.size := by
    rcases Nat.lt_or_ge a.block w.heap.size with e | e
    · exact e
    · rw [Array.getElem?_eq_none e] at h; cases h
  exact ⟨c, t, by rw [b.block _ hl]; exact h⟩

/- The four reasons and the type of errors, as they are laid. -/
structure Sen (f : Four) (w : World) : Prop where
  n : w.cell? ⟨0, 0, none⟩ = some (.iface 247 (.pointer (some f.n)))
  r : w.cell? ⟨1, 0, none⟩ = some (.iface 247 (.pointer (some f.r)))
  u : w.cell? ⟨2, 0, none⟩ = some (.iface 247 (.pointer (some f.u)))
  c : w.cell? ⟨3, 0, none⟩ = some (.iface 247 (.pointer (some f.c)))
  ty : w.cell? ⟨4, 0, none⟩ = some (.iface 168 (.agg #[.pointer (some ⟨9, 66, none⟩)]))
  hn : Held w f.n
  hr : Held w f.r
  hu : Held w f.u
  hc : Held w f.c
  nr : f.n ≠ f.r
  nu : f.n ≠ f.u
  nc : f.n ≠ f.c
  ur : f.u ≠ f.r
  cr : f.c ≠ f.r
  cu : f.c ≠ f.u
theorem Sen.below {f : Four} {w w' : World} (h : Sen f w) (b : Below w.heap.size w w') : Sen f w' :=
  ⟨later_cell h.n b, later_cell h.r b, later_cell h.u b, later_cell h.c b, later_cell h.ty b, h.hn.below b, h.hr.below b, h.hu.below b, h.hc.below b, h.nr, h.nu, h.nc, h.ur, h.cr, h.cu⟩

theorem irefusedFor_any (t : TypeId) (p : Value) (w : World) :
    Calls Tryz.prog 72 #[.iface t p] w fun e w' => e = .returned (.iface 99 (.agg #[.iface t p, .string ⟨#[]⟩])) ∧ w' = w := by
  go_enter Tryz.func72, Tryz.ntmps72
  go_wp2
  go_ret
  exact ⟨rfl, rfl⟩

def acSt (code : Int) : Int := if code = 0 then 0 else if code = 1 then 3 else 1

theorem irefAct_any (f : Four) (code : Int) (w : World) (S : Sen f w) :
    Calls Tryz.prog 115 #[.int .i64 code] w fun e w' => e = .returned (errV f (acSt code) []) ∧ w' = w := by
  have hr := S.r
  have hc := S.c
  have H0 : Hid (code = 0 → errV f (acSt code) [] = .nilIface) := fun e => by subst e; rfl
  have H1 : Hid (code = 1 → errV f (acSt code) [] = .iface 99 (.agg #[.iface 247 (.pointer (some f.c)), .string ⟨#[]⟩])) := fun e => by subst e; rfl
  have H2 : Hid (code ≠ 0 → code ≠ 1 → errV f (acSt code) [] = .iface 99 (.agg #[.iface 247 (.pointer (some f.r)), .string ⟨#[]⟩])) := fun e e' => by
    unfold acSt
    rw [if_neg e, if_neg e']
    rfl
  obtain ⟨V, hV⟩ : ∃ V, V = errV f (acSt code) [] := ⟨_, rfl⟩
  rw [← hV] at H0 H1 H2 ⊢
  clear hV S
  by_cases h0 : code = 0
  · rw [H0.out h0]
    clear H0 H1 H2
    go_enter Tryz.func115, Tryz.ntmps115
    go_wp2
    go_ret
    exact ⟨rfl, rfl⟩
  · by_cases h1 : code = 1
    · rw [H1.out h1]
      clear H0 H1 H2
      go_enter Tryz.func115, Tryz.ntmps115
      go_wp2_with (go_at_call 72; refine (irefusedFor_any _ _ _).mono ?_; rintro e w' ⟨rfl, hw'⟩; subst w')
      go_ret
      exact ⟨rfl, rfl⟩
    · rw [H2.out h0 h1]
      clear H0 H1 H2
      go_enter Tryz.func115, Tryz.ntmps115
      go_wp2_with (go_at_call 72; refine (irefusedFor_any _ _ _).mono ?_; rintro e w' ⟨rfl, hw'⟩; subst w')
      go_ret
      exact ⟨rfl, rfl⟩

theorem irefDisk_any (f : Four) (an : An) (w : World) (S : Sen f w) (hs : an.st = 0 ∨ (an.st = 1 ∧ an.tx = []) ∨ an.st = 2 ∨ (an.st = 7 ∧ an.tx = [])) :
    Calls Tryz.prog 111 #[AV an] w fun e w' => e = .returned (errV f an.st an.tx) ∧ Below w.heap.size w w' := by
  have b0 : Below w.heap.size w (w.alloc (.cells #[.int .i64 an.st, .string ⟨an.tx.toArray⟩] 36)) := (Below.refl _ _).alloc (Nat.le_refl _) _
  have P0 := StB.new w 36 #[.int .i64 an.st, .string ⟨an.tx.toArray⟩]
  have k0 : (w.alloc (.cells #[.int .i64 an.st, .string ⟨an.tx.toArray⟩] 36)).cell? ⟨w.heap.size, 0, none⟩ = some (.int .i64 an.st) := P0.cell 0 rfl
  have k1 : (w.alloc (.cells #[.int .i64 an.st, .string ⟨an.tx.toArray⟩] 36)).cell? ⟨w.heap.size, 1, none⟩ = some (.string ⟨an.tx.toArray⟩) := P0.cell 1 rfl
  have S' := S.below b0
  have hr := S'.r
  have hu := S'.u
  have hn := S'.n
  have HB : Hid (Below w.heap.size w (w.alloc (.cells #[.int .i64 an.st, .string ⟨an.tx.toArray⟩] 36))) := b0
  clear P0 S' S b0
  obtain ⟨st, tx⟩ := an
  dsimp only at *
  unfold AV anA S
  dsimp only
  rcases hs with rfl | ⟨rfl, rfl⟩ | rfl | ⟨rfl, rfl⟩
  · rw [errV_no]
    go_enter Tryz.func111, Tryz.ntmps111
    go_wp2
    go_ret
    exact ⟨rfl, HB.out⟩
  · rw [show errV f 1 [] = .iface 99 (.agg #[.iface 247 (.pointer (some f.r)), .string ⟨#[]⟩]) from rfl]
    go_enter Tryz.func111, Tryz.ntmps111
    go_wp2_with (go_at_call 72; refine (irefusedFor_any _ _ _).mono ?_; rintro e w' ⟨rfl, hw'⟩; subst w')
    go_ret
    exact ⟨rfl, HB.out⟩
  · rw [show errV f 2 tx = .iface 99 (.agg #[.iface 247 (.pointer (some f.u)), .string ⟨tx.toArray⟩]) from rfl]
    go_enter Tryz.func111, Tryz.ntmps111
    go_wp2
    go_ret
    exact ⟨rfl, HB.out⟩
  · rw [show errV f 7 [] = .iface 99 (.agg #[.iface 247 (.pointer (some f.n)), .string ⟨#[]⟩]) from rfl]
    go_enter Tryz.func111, Tryz.ntmps111
    go_wp2_with (go_at_call 72; refine (irefusedFor_any _ _ _).mono ?_; rintro e w' ⟨rfl, hw'⟩; subst w')
    go_ret
    exact ⟨rfl, HB.out⟩

/- Is it wrapped, by the reasons' places? -/
theorem iis_any (a b : Addr) (y : Value) (w : World) (ha : Held w a) (hb : Held w b) :
    Calls Tryz.prog 81 #[.iface 99 (.agg #[.iface 247 (.pointer (some a)), y]), .iface 247 (.pointer (some b))] w fun e w' => e = .returned (.bool (decide (a = b))) ∧ Below w.heap.size w w' := by
  by_cases h : a = b
  · subst h
    rw [decide_eq_true rfl]
    exact is_same a y w
  · rw [decide_eq_false h]
    obtain ⟨ca, ta, ha⟩ := ha
    obtain ⟨cb, tb, hb⟩ := hb
    exact is_other a b y ca cb ta tb w h ha hb

set_option maxRecDepth 20000 in
set_option maxHeartbeats 1000000 in
theorem istatus_any (f : Four) (st : Int) (tx : Bs) (w : World) (S : Sen f w) (hs : st = 1 ∨ st = 2 ∨ st = 3 ∨ st = 7) :
    Calls Tryz.prog 33 #[rfV f st tx] w fun e w' => e = .returned (.int .i64 st) ∧ Below w.heap.size w w' := by
  have ha : ∀ wx, Sen f wx → Held wx (f.at st) := by
    intro wx S
    unfold Four.at
    split
    · exact S.hr
    · split
      · exact S.hu
      · split
        · exact S.hc
        · exact S.hn
  have C : Hid (∀ wx b, Sen f wx → Held wx b → Calls Tryz.prog 81 #[rfV f st tx, .iface 247 (.pointer (some b))] wx fun e w' => e = .returned (.bool (decide (f.at st = b))) ∧ Below wx.heap.size wx w') := fun wx b S hb => iis_any _ _ _ wx (ha wx S) hb
  have E1 : Hid (decide (f.at st = f.r) = decide (st = 1) ∧ (st ≠ 1 → decide (f.at st = f.u) = decide (st = 2)) ∧ (st ≠ 1 → st ≠ 2 → decide (f.at st = f.c) = decide (st = 3))) := by
    rcases hs with rfl | rfl | rfl | rfl
    · exact ⟨by simp [Four.at], fun h => absurd rfl h, fun h => absurd rfl h⟩
    · exact ⟨by simp [Four.at, S.ur], fun _ => by simp [Four.at], fun _ h => absurd rfl h⟩
    · exact ⟨by simp [Four.at, S.cr], fun _ => by simp [Four.at, S.cu], fun _ _ => by simp [Four.at]⟩
    · exact ⟨by simp [Four.at, S.nr], fun _ => by simp [Four.at, S.nu], fun _ _ => by simp [Four.at, S.nc]⟩
  have HS : Hid (Sen f w) := S
  have k1 := S.r
  obtain ⟨V, hV⟩ : ∃ V, V = rfV f st tx := ⟨_, rfl⟩
  have hI : ∃ t p, V = .iface t p := ⟨_, _, hV⟩
  rw [← hV] at C ⊢
  obtain ⟨t, p, rfl⟩ := hI
  clear S hV ha
  go_enter Tryz.func33, Tryz.ntmps33
  go_wp2_with fail
  refine (C.out _ _ HS.out HS.out.hr).mono ?_
  rintro e w1 ⟨rfl, b1⟩
  rw [E1.out.1]
  by_cases h1 : st = 1
  · subst h1
    rw [decide_eq_true rfl]
    go_wp2
    go_ret
    exact ⟨rfl, b1⟩
  · rw [decide_eq_false h1]
    have HS1 : Hid (Sen f w1) := HS.out.below b1
    have HB1 : Hid (Below w.heap.size w w1) := b1
    have k2 := HS1.out.u
    clear b1 k1
    go_wp2_with fail
    refine (C.out _ _ HS1.out HS1.out.hu).mono ?_
    rintro e w2 ⟨rfl, b2⟩
    rw [E1.out.2.1 h1]
    by_cases h2 : st = 2
    · subst h2
      have HB2 : Hid (Below w.heap.size w w2) := HB1.out.trans (b2.mono HB1.out.size)
      rw [decide_eq_true rfl]
      go_wp2
      go_ret
      exact ⟨rfl, HB2.out⟩
    · rw [decide_eq_false h2]
      have HS2 : Hid (Sen f w2) := HS1.out.below b2
      have HB2 : Hid (Below w.heap.size w w2) := HB1.out.trans (b2.mono HB1.out.size)
      have k3 := HS2.out.c
      clear b2 k2
      go_wp2_with fail
      refine (C.out _ _ HS2.out HS2.out.hc).mono ?_
      rintro e w3 ⟨rfl, b3⟩
      have HB3 : Hid (Below w.heap.size w w3) := HB2.out.trans (b3.mono HB2.out.size)
      rw [E1.out.2.2 h1 h2]
      clear k3 b3
      by_cases h3 : st = 3
      · subst h3
        rw [decide_eq_true rfl]
        go_wp2
        go_ret
        exact ⟨rfl, HB3.out⟩
      · have h7 : st = 7 := by omega
        subst h7
        rw [decide_eq_false (by decide)]
        go_wp2
        go_ret
        exact ⟨rfl, HB3.out⟩

set_option maxRecDepth 20000 in
set_option maxHeartbeats 1000000 in
theorem itext_any (f : Four) (st : Int) (tx : Bs) (w : World) (S : Sen f w) :
    Calls Tryz.prog 34 #[rfV f st tx] w fun e w' => e = .returned (.string ⟨tx.toArray⟩) ∧ Below w.heap.size w w' := by
  obtain ⟨w1, hw1⟩ : ∃ w1, w1 = w.alloc (.cells #[.nilIface, .string ⟨#[]⟩] 99) := ⟨_, rfl⟩
  have b1 : Below w.heap.size w w1 := by rw [hw1]; exact (Below.refl _ _).alloc (Nat.le_refl _) _
  have P1 : StB w1 w.heap.size 99 #[.nilIface, .string ⟨#[]⟩] := by rw [hw1]; exact StB.new _ _ _
  have c := as_hit 247 (.pointer (some (f.at st))) ⟨tx.toArray⟩ w.heap.size _ _ w1 (S.below b1).ty P1
  have HB : Hid (Below w.heap.size w w1) := b1
  unfold rfV
  clear b1 P1 S
  go_enter Tryz.func34, Tryz.ntmps34
  go_upto_region 2 with fail
  rw [← hw1]
  clear hw1
  go_wp2_with fail
  refine c.mono ?_
  rintro e w2 ⟨rfl, s2, g2⟩
  have k1 : w2.cell? ⟨w.heap.size, 1, none⟩ = some (.string ⟨tx.toArray⟩) := s2.cell 1 rfl
  have HB2 : Hid (Below w.heap.size w w2) := HB.out.grown g2 HB.out.size (fun k e => by cases e; exact Nat.le_refl _)
  clear s2 g2 c
  go_wp2
  go_ret
  exact ⟨rfl, HB2.out⟩
end Go.Proofs.YtpdggofaobmnlaaGreatDoor
/- What the program's actions ask and do, one after the other: what fits, what refuses, what is done. -/
namespace Go.Proofs.YtpdggofaobmnlaaGreatDoor
open Go.ChangeShapes Go.WideShapes Go.ChangeAt Go.RowKit

def wiA (i k d : Int) : Array Value := #[.int .i64 i, .int .i64 k, .int .i64 d]
theorem Tryz.isWish : IsS 209 3 := ⟨⟨_, Tryz.underlying209⟩, by kernel_rfl⟩
theorem wiA_one (i k d : Int) : (wiA i k d).all (·.oneCell') = true := by simp [wiA, Value.oneCell']
theorem wiA_cells {w : World} {g : Nat} {i k d : Int} (h : StB w g 209 (wiA i k d)) :
    w.cell? ⟨g, 0, none⟩ = some (.int .i64 i) ∧ w.cell? ⟨g, 1, none⟩ = some (.int .i64 k) ∧ w.cell? ⟨g, 2, none⟩ = some (.int .i64 d) :=
  ⟨h.cell 0 rfl, h.cell 1 rfl, h.cell 2 rfl⟩
def he0A : Array Value := heA (fun _ => 0) 0 0 0
/- Three new blocks: the holding, the wish, and what is answered. -/
def HW (w w1 : World) (f : Nat → Int) (kd ho tu i k d : Int) : Prop :=
  StB w1 w.heap.size 106 (heA f kd ho tu) ∧ StB w1 (w.heap.size + 1) 209 (wiA i k d) ∧ StB w1 (w.heap.size + 2) 106 he0A ∧ Below w.heap.size w w1
theorem HW.start (w : World) (f : Nat → Int) (kd ho tu i k d : Int) : HW w (((w.alloc (.cells (heA f kd ho tu) 106)).alloc (.cells (wiA i k d) 209)).alloc (.cells he0A 106)) f kd ho tu i k d := by
  refine ⟨((StB.new _ _ _).alloc _).alloc _, ?_, ?_, (((Below.refl _ _).alloc (Nat.le_refl _) _).alloc (by simp) _).alloc (by simp; omega) _⟩
  · have := StB.new (w.alloc (.cells (heA f kd ho tu) 106)) 209 (wiA i k d)
    rw [World.size_alloc] at this
    exact this.alloc _
  · have := StB.new ((w.alloc (.cells (heA f kd ho tu) 106)).alloc (.cells (wiA i k d) 209)) 106 he0A
    rw [World.size_alloc, World.size_alloc] at this
    exact this
theorem HW.next {w w1 w2 : World} {f : Nat → Int} {kd ho tu i k d : Int} (h : HW w w1 f kd ho tu i k d) (b : Below w1.heap.size w1 w2) : HW w w2 f kd ho tu i k d :=
  ⟨h.1.below b, h.2.1.below b, h.2.2.1.below b, h.2.2.2.trans (b.mono h.2.2.2.size)⟩
theorem HW.drew {w w1 : World} {f : Nat → Int} {kd ho tu i k d : Int} (h : HW w w1 f kd ho tu i k d) : HW w w1.drew f kd ho tu i k d := ⟨h.1, h.2.1, h.2.2.1, h.2.2.2.drew⟩
theorem HW.lt {w w1 : World} {f : Nat → Int} {kd ho tu i k d : Int} (h : HW w w1 f kd ho tu i k d) : w.heap.size + 2 < w1.heap.size := h.2.2.1.lt
theorem HW.set {w w1 w2 : World} {f g : Nat → Int} {kd ho tu i k d kd' ho' tu' : Int} (h : HW w w1 f kd ho tu i k d) (s : StB w2 w.heap.size 106 (heA g kd' ho' tu')) (b : w1.grownBy w2 (some w.heap.size)) : HW w w2 g kd' ho' tu' i k d :=
  ⟨s, h.2.1.kept b (by simp), h.2.2.1.kept b (by simp), h.2.2.2.grown b h.2.2.2.size (fun x e => by cases e; exact Nat.le_refl _)⟩
theorem HW.put {w w1 : World} {f g : Nat → Int} {kd ho tu i k d kd' ho' tu' : Int} (h : HW w w1 f kd ho tu i k d) (j : Nat) (x : Int) (e : (heA f kd ho tu).setIfInBounds j (.int .i64 x) = heA g kd' ho' tu') : HW w (w1.setCell ⟨w.heap.size, j, none⟩ (.int .i64 x)) g kd' ho' tu' i k d :=
  h.set (h.1.put j _ e) (grownSet w1 _ j _)

set_option maxRecDepth 20000 in
set_option maxHeartbeats 400000 in
theorem ianykey_any (i k d : Int) (w : World) :
    Calls Tryz.prog 191 #[.agg (wiA i k d)] w fun e w' => e = .returned (.bool (inI k 0 9999)) ∧ Below w.heap.size w w' := by
  have b1 : Below w.heap.size w (w.alloc (.cells (wiA i k d) 209)) := (Below.refl _ _).alloc (Nat.le_refl _) _
  have c1 := fun wx => ikeyok_any k wx
  unfold wiA at *
  go_enter Tryz.func191, Tryz.ntmps191
  go_wp2_with (first | (go_at_call 160; refine (c1 _).mono ?_; rintro e w' ⟨rfl, hw⟩; subst w'))
  go_ret
  exact ⟨rfl, b1⟩

set_option maxRecDepth 20000 in
set_option maxHeartbeats 400000 in
theorem isomekind_any (i k d : Int) (w : World) :
    Calls Tryz.prog 194 #[.agg (wiA i k d)] w fun e w' => e = .returned (.bool (kiI d)) ∧ Below w.heap.size w w' := by
  have b1 : Below w.heap.size w (w.alloc (.cells (wiA i k d) 209)) := (Below.refl _ _).alloc (Nat.le_refl _) _
  have c1 := fun wx => ikind_any d wx
  unfold wiA at *
  go_enter Tryz.func194, Tryz.ntmps194
  go_wp2_with (first | (go_at_call 163; refine (c1 _).mono ?_; rintro e w2 ⟨rfl, b2⟩))
  go_ret
  exact ⟨rfl, b1.trans (b2.mono b1.size)⟩

set_option maxRecDepth 20000 in
set_option maxHeartbeats 400000 in
theorem ianything_any (i k d : Int) (w : World) :
    Calls Tryz.prog 197 #[.agg (wiA i k d)] w fun e w' => e = .returned (.bool true) ∧ Below w.heap.size w w' := by
  have b1 : Below w.heap.size w (w.alloc (.cells (wiA i k d) 209)) := (Below.refl _ _).alloc (Nat.le_refl _) _
  unfold wiA at *
  go_enter Tryz.func197, Tryz.ntmps197
  go_wp2
  go_ret
  exact ⟨rfl, b1⟩

theorem key_some (k : Int) : (inI k 0 9999 && (k != 0)) = inI k 1 9999 := by
  rw [Bool.eq_iff_iff]
  simp [inI]
  omega

set_option maxRecDepth 20000 in
set_option maxHeartbeats 1000000 in
theorem isomekk_any (i k d : Int) (w : World) :
    Calls Tryz.prog 201 #[.agg (wiA i k d)] w fun e w' => e = .returned (.bool (inI k 1 9999 && kiI d)) ∧ Below w.heap.size w w' := by
  have b1 : Below w.heap.size w (w.alloc (.cells (wiA i k d) 209)) := (Below.refl _ _).alloc (Nat.le_refl _) _
  have c1 := fun wx => ikeyok_any k wx
  have c2 := fun wx => ikind_any d wx
  have HE : Hid ((inI k 0 9999 && (k != 0)) = inI k 1 9999) := key_some k
  obtain ⟨x, hx⟩ : ∃ x, x = inI k 0 9999 := ⟨_, rfl⟩
  obtain ⟨y, hy⟩ : ∃ y, y = kiI d := ⟨_, rfl⟩
  obtain ⟨z, hz⟩ : ∃ z, z = inI k 1 9999 := ⟨_, rfl⟩
  rw [← hx, ← hz] at HE
  rw [← hy, ← hz]
  simp only [← hx] at c1
  simp only [← hy] at c2
  clear hx hy hz
  unfold wiA at *
  cases x with
  | false =>
    have E : Hid (z = false) := by rw [Hid, ← HE.out]; simp
    clear HE
    go_enter Tryz.func201, Tryz.ntmps201
    go_wp2_with (first | (go_at_call 160; refine (c1 _).mono ?_; rintro e w' ⟨rfl, hw⟩; subst w'))
    go_ret
    exact ⟨ret_bool (by rw [E.out]; simp), b1⟩
  | true =>
    by_cases k0 : k = 0
    · have E : Hid (z = false) := by rw [Hid, ← HE.out]; simp [k0]
      have kn : (k != 0) = false := by simpa using k0
      clear HE k0
      go_enter Tryz.func201, Tryz.ntmps201
      go_wp2_with (first | (go_at_call 160; refine (c1 _).mono ?_; rintro e w' ⟨rfl, hw⟩; subst w'))
      go_ret
      exact ⟨ret_bool (by rw [E.out]; simp), b1⟩
    · have E : Hid (z = true) := by rw [Hid, ← HE.out]; simp [k0]
      have kn : (k != 0) = true := by simpa using k0
      clear HE k0
      go_enter Tryz.func201, Tryz.ntmps201
      go_wp2_with (first | (go_at_call 160; refine (c1 _).mono ?_; rintro e w' ⟨rfl, hw⟩; subst w') | (go_at_call 163; refine (c2 _).mono ?_; rintro e w2 ⟨rfl, b2⟩))
      go_ret
      exact ⟨ret_bool (by rw [E.out]; simp), b1.trans (b2.mono b1.size)⟩

set_option maxRecDepth 20000 in
set_option maxHeartbeats 400000 in
theorem inobody_any (f : Nat → Int) (kd ho tu i k d : Int) (w : World) :
    Calls Tryz.prog 192 #[.agg (heA f kd ho tu), .agg (wiA i k d)] w fun e w' => e = .returned (.bool false) ∧ Below w.heap.size w w' := by
  have b1 : Below w.heap.size w ((w.alloc (.cells (heA f kd ho tu) 106)).alloc (.cells (wiA i k d) 209)) := ((Below.refl _ _).alloc (Nat.le_refl _) _).alloc (by simp) _
  unfold wiA heA at *
  go_enter Tryz.func192, Tryz.ntmps192
  go_wp2
  go_ret
  exact ⟨rfl, b1⟩

/- Two new blocks: the holding and the wish. -/
def HW2 (w w1 : World) (f : Nat → Int) (kd ho tu i k d : Int) : Prop :=
  StB w1 w.heap.size 106 (heA f kd ho tu) ∧ StB w1 (w.heap.size + 1) 209 (wiA i k d) ∧ Below w.heap.size w w1
theorem HW2.start (w : World) (f : Nat → Int) (kd ho tu i k d : Int) : HW2 w ((w.alloc (.cells (heA f kd ho tu) 106)).alloc (.cells (wiA i k d) 209)) f kd ho tu i k d := by
  refine ⟨(StB.new _ _ _).alloc _, ?_, ((Below.refl _ _).alloc (Nat.le_refl _) _).alloc (by simp) _⟩
  have := StB.new (w.alloc (.cells (heA f kd ho tu) 106)) 209 (wiA i k d)
  rw [World.size_alloc] at this
  exact this
theorem HW2.next {w w1 w2 : World} {f : Nat → Int} {kd ho tu i k d : Int} (h : HW2 w w1 f kd ho tu i k d) (b : Below w1.heap.size w1 w2) : HW2 w w2 f kd ho tu i k d :=
  ⟨h.1.below b, h.2.1.below b, h.2.2.trans (b.mono h.2.2.size)⟩
theorem HW2.drew {w w1 : World} {f : Nat → Int} {kd ho tu i k d : Int} (h : HW2 w w1 f kd ho tu i k d) : HW2 w w1.drew f kd ho tu i k d := ⟨h.1, h.2.1, h.2.2.drew⟩

def strI (f : Nat → Int) (i : Int) : Bool := !(inI i 0 3 && decide (f i.toNat ≠ 0))
set_option maxRecDepth 20000 in
set_option maxHeartbeats 1000000 in
theorem istrange_any (f : Nat → Int) (kd ho tu i k d : Int) (w : World) :
    Calls Tryz.prog 198 #[.agg (heA f kd ho tu), .agg (wiA i k d)] w fun e w' => e = .returned (.bool (strI f i)) ∧ Below w.heap.size w w' := by
  obtain ⟨w1, hw1⟩ : ∃ w1, w1 = (w.alloc (.cells (heA f kd ho tu) 106)).alloc (.cells (wiA i k d) 209) := ⟨_, rfl⟩
  have HS : Hid (HW2 w w1 f kd ho tu i k d) := by rw [hw1]; exact HW2.start _ _ _ _ _ _ _ _
  have c1 := iregd_any f i w1
  obtain ⟨x, hx⟩ : ∃ x, x = (inI i 0 3 && decide (f i.toNat ≠ 0)) := ⟨_, rfl⟩
  unfold strI
  rw [← hx] at c1 ⊢
  clear hx
  unfold kA at c1
  rw [heA, wiA] at hw1 ⊢
  go_enter Tryz.func198, Tryz.ntmps198
  go_wp2_with fail
  rw [← hw1]
  refine c1.mono ?_
  rintro e w2 ⟨rfl, b2⟩
  replace HS := HS.out.next b2
  clear hw1 c1 b2
  go_wp2
  go_ret
  exact ⟨rfl, HS.2.2⟩
end Go.Proofs.YtpdggofaobmnlaaGreatDoor
