/- What a region keeps that stores into one block alone: every cell of the others. -/
import Derived.Test.YtjbfncjdedigdaaM16
import Derived.Test.YtjbfncjdedigdaaM5
import Derived.Test.YtjbfncjdedigdaaIPost
import Derived.Test.YtjbfncjdedigdaaSPost
namespace Go.Proofs.Ytjbfncjdedigdaa
open Go.ChangeShapes Go.WideShapes Go.ChangeAt Go.RowKit

theorem bl_size {w wx : World} (h : Below w.heap.size w wx) : w.heap.size ≤ wx.heap.size := h.size
def Sp (g : Nat) (w1 w' : World) : Prop := ∀ a x, a.block ≠ g → w1.cell? a = some x → w'.cell? a = some x
theorem Sp.refl (g : Nat) (w1 : World) : Sp g w1 w1 := fun _ _ _ h => h
theorem Sp.dr {g : Nat} {w1 wx : World} (h : Sp g w1 wx) : Sp g w1 wx.drew := h
theorem Sp.bel {g : Nat} {w1 wx wy : World} (h : Sp g w1 wx) (b : Below wx.heap.size wx wy) : Sp g w1 wy := fun a x h1 h3 => later_cell (h a x h1 h3) b
theorem Sp.al {g : Nat} {w1 wx : World} {o : Obj} (h : Sp g w1 wx) : Sp g w1 (wx.alloc o) := h.bel ((Below.refl _ _).alloc (Nat.le_refl _) _)
theorem Sp.put {g : Nat} {w1 wx wy : World} (h : Sp g w1 wx) (e : wx.grownBy wy (some g)) : Sp g w1 wy := fun a x h1 h3 => e.cell (h a x h1 h3) (by simpa using h1)
theorem Sp.set {g : Nat} {w1 wx : World} {j : Nat} {v : Value} (h : Sp g w1 wx) : Sp g w1 (wx.setCell ⟨g, j, none⟩ v) := h.put (grownSet wx g j v)
/- The same of two blocks. -/
def Sd (g k : Nat) (w1 w' : World) : Prop := ∀ a x, a.block ≠ g → a.block ≠ k → w1.cell? a = some x → w'.cell? a = some x
theorem Sd.refl (g k : Nat) (w1 : World) : Sd g k w1 w1 := fun _ _ _ _ h => h
theorem Sd.dr {g k : Nat} {w1 wx : World} (h : Sd g k w1 wx) : Sd g k w1 wx.drew := h
theorem Sd.bel {g k : Nat} {w1 wx wy : World} (h : Sd g k w1 wx) (b : Below wx.heap.size wx wy) : Sd g k w1 wy := fun a x h1 h2 h3 => later_cell (h a x h1 h2 h3) b
theorem Sd.al {g k : Nat} {w1 wx : World} {o : Obj} (h : Sd g k w1 wx) : Sd g k w1 (wx.alloc o) := h.bel ((Below.refl _ _).alloc (Nat.le_refl _) _)
theorem Sd.put1 {g k : Nat} {w1 wx wy : World} (h : Sd g k w1 wx) (e : wx.grownBy wy (some g)) : Sd g k w1 wy := fun a x h1 h2 h3 => e.cell (h a x h1 h2 h3) (by simpa using h1)
theorem Sd.put2 {g k : Nat} {w1 wx wy : World} (h : Sd g k w1 wx) (e : wx.grownBy wy (some k)) : Sd g k w1 wy := fun a x h1 h2 h3 => e.cell (h a x h1 h2 h3) (by simpa using h2)
theorem Sd.set1 {g k : Nat} {w1 wx : World} {j : Nat} {v : Value} (h : Sd g k w1 wx) : Sd g k w1 (wx.setCell ⟨g, j, none⟩ v) := h.put1 (grownSet wx g j v)
theorem Sd.set2 {g k : Nat} {w1 wx : World} {j : Nat} {v : Value} (h : Sd g k w1 wx) : Sd g k w1 (wx.setCell ⟨k, j, none⟩ v) := h.put2 (grownSet wx k j v)
end Go.Proofs.Ytjbfncjdedigdaa
/- Posts by the program: Posted, Twice. -/
namespace Go.Proofs.Ytjbfncjdedigdaa
open Go.ChangeShapes Go.WideShapes Go.ChangeAt Go.RowKit

theorem igath1_any (v : Value) (ps : List (Value × Mg)) (w : World) (hr : RdP w v ps) (hs : SmP ps) (hl : ps.length ≤ 40) :
    Calls Try.prog 33 #[.slice (some ⟨w.heap.size, 0, none⟩) 1 1] (w.alloc (.cells #[v] 24)) fun e w' => ∃ u qs, e = .returned u ∧ msOf qs = msOf ps ∧ OwnP w' w.heap.size u qs ∧ Below w.heap.size w w' := by
  have b : Below w.heap.size w (w.alloc (.cells #[v] 24)) := (Below.refl _ _).alloc (Nat.le_refl _) _
  have h := igath_any w.heap.size 1 [(v, ps)] (w.alloc (.cells #[v] 24)) rfl (by decide) (fun j p e => by
    match j, e with
    | 0, e => cases e; exact (StB.new w _ _).cell 0 rfl) (fun p hp => by
    rw [List.mem_singleton] at hp; subst hp; exact hr.below b) (fun p hp => by
    rw [List.mem_singleton] at hp; subst hp; exact hs) (fun p hp => by
    rw [List.mem_singleton] at hp; subst hp; exact hl)
  refine h.mono ?_
  rintro e w' ⟨u, qs, rfl, eq, o, b2⟩
  exact ⟨u, qs, rfl, by simpa using eq, o.mono b.size, b.trans (b2.mono b.size)⟩
theorem igath2_any (v v2 : Value) (ps qs : List (Value × Mg)) (w : World) (hr : RdP w v ps) (hr2 : RdP w v2 qs) (hs : SmP ps) (hs2 : SmP qs) (hl : ps.length ≤ 40) (hl2 : qs.length ≤ 40) :
    Calls Try.prog 33 #[.slice (some ⟨w.heap.size, 0, none⟩) 2 2] (w.alloc (.cells #[v, v2] 24)) fun e w' => ∃ u rs, e = .returned u ∧ msOf rs = msOf ps ++ msOf qs ∧ OwnP w' w.heap.size u rs ∧ Below w.heap.size w w' := by
  have b : Below w.heap.size w (w.alloc (.cells #[v, v2] 24)) := (Below.refl _ _).alloc (Nat.le_refl _) _
  have h := igath_any w.heap.size 2 [(v, ps), (v2, qs)] (w.alloc (.cells #[v, v2] 24)) rfl (by decide) (fun j p e => by
    match j, e with
    | 0, e => cases e; exact (StB.new w _ _).cell 0 rfl
    | 1, e => cases e; exact (StB.new w _ _).cell 1 rfl) (fun p hp => by
    rcases List.mem_cons.1 hp with rfl | hp
    · exact hr.below b
    · rw [List.mem_singleton] at hp; subst hp; exact hr2.below b) (fun p hp => by
    rcases List.mem_cons.1 hp with rfl | hp
    · exact hs
    · rw [List.mem_singleton] at hp; subst hp; exact hs2) (fun p hp => by
    rcases List.mem_cons.1 hp with rfl | hp
    · exact hl
    · rw [List.mem_singleton] at hp; subst hp; exact hl2)
  refine h.mono ?_
  rintro e w' ⟨u, qs, rfl, eq, o, b2⟩
  exact ⟨u, qs, rfl, by simpa using eq, o.mono b.size, b.trans (b2.mono b.size)⟩

set_option maxRecDepth 20000 in
set_option maxHeartbeats 1000000 in
theorem iPosted_any (va vb : Value) (ps qs : List (Value × Mg)) (w : World) (ha : RdP w va ps) (hb : RdP w vb qs) (sa : SmP ps) (sb : SmP qs) :
    Calls Try.prog 10 #[va, vb] w fun e w' => ∃ u rs, e = .returned (.tuple #[u, .bool (postP (msOf ps) (msOf qs)).2]) ∧ msOf rs = (postP (msOf ps) (msOf qs)).1 ∧ OwnP w' w.heap.size u rs ∧ Below w.heap.size w w' := by
  have c1 := ipostok_any va ps w ha sa
  have HA : Hid (∀ wx, Below w.heap.size w wx → RdP wx va ps) := fun wx b => ha.below b
  have HB : Hid (∀ wx, Below w.heap.size w wx → RdP wx vb qs) := fun wx b => hb.below b
  have CA : Hid (∀ wx, Below w.heap.size w wx → Calls Try.prog 32 #[vb] wx fun e w' => e = .returned (.bool ((msOf qs).all Mg.ok)) ∧ Below wx.heap.size wx w') := fun wx b => iallright_any vb qs wx (HB.out wx b) sb
  have C1 : Hid (∀ wx, Below w.heap.size w wx → ps.length ≤ 40 → Calls Try.prog 33 #[.slice (some ⟨wx.heap.size, 0, none⟩) 1 1] (wx.alloc (.cells #[va] 24)) fun e w' => ∃ u rs, e = .returned u ∧ msOf rs = msOf ps ∧ OwnP w' wx.heap.size u rs ∧ Below wx.heap.size wx w') := fun wx b l => igath1_any va ps wx (HA.out wx b) sa l
  have C2 : Hid (∀ wx, Below w.heap.size w wx → ps.length ≤ 40 → qs.length ≤ 40 → Calls Try.prog 33 #[.slice (some ⟨wx.heap.size, 0, none⟩) 2 2] (wx.alloc (.cells #[va, vb] 24)) fun e w' => ∃ u rs, e = .returned u ∧ msOf rs = msOf ps ++ msOf qs ∧ OwnP w' wx.heap.size u rs ∧ Below wx.heap.size wx w') := fun wx b l l2 => igath2_any va vb ps qs wx (HA.out wx b) (HB.out wx b) sa sb l l2
  obtain ⟨r, hr⟩ : ∃ r, r = postP (msOf ps) (msOf qs) := ⟨_, rfl⟩
  rw [← hr]
  have HR : Hid (r = postP (msOf ps) (msOf qs)) := hr
  clear hr
  obtain ⟨x, hx⟩ : ∃ x, x = postOk (msOf ps) := ⟨_, rfl⟩
  rw [← hx] at c1
  obtain ⟨y, hy⟩ : ∃ y, y = (msOf qs).all Mg.ok := ⟨_, rfl⟩
  simp only [← hy] at CA
  obtain ⟨ao, ac, rfl⟩ := ha.form
  obtain ⟨bo, bc, rfl⟩ := hb.form
  have HX : Hid (x = postOk (msOf ps)) := hx
  have HY : Hid (y = (msOf qs).all Mg.ok) := hy
  have hkm : qs.length ≤ maxLen := Nat.le_trans hb.el.2.1 hb.el.2.2.1
  unfold maxLen at hkm
  obtain ⟨n, hn⟩ : ∃ n, n = ps.length := ⟨_, rfl⟩
  obtain ⟨k, hk⟩ : ∃ k, k = qs.length := ⟨_, rfl⟩
  rw [← hn] at HA C1 C2 c1 ⊢
  rw [← hk] at HB CA C2 hkm ⊢
  have HN : Hid (n = ps.length ∧ k = qs.length) := ⟨hn, hk⟩
  clear hx hy ha hb sa sb hn hk
  cases x with
  | false =>
    have HE : Hid (r = ([], false)) := by rw [Hid, HR.out]; unfold postP; rw [← HX.out]; rfl
    clear HX C1 C2 CA
    go_enter Try.func10, Try.ntmps10
    go_wp2_with fail
    refine c1.mono ?_
    rintro e w1 ⟨rfl, b1⟩
    have HL : Hid (OwnP (w1.alloc (.cells #[] 35)) w.heap.size (.slice (some ⟨w1.heap.size, 0, none⟩) 0 0) [] ∧ Below w.heap.size w (w1.alloc (.cells #[] 35))) := ⟨OwnP.lit w1 _ b1.size, b1.alloc b1.size _⟩
    clear b1 c1
    go_wp2
    go_ret2
    rw [HE.out]
    exact ⟨_, _, rfl, rfl, HL.out.1, HL.out.2⟩
  | true =>
    have hn40 : n ≤ 40 := by have := postOk_len HX.out.symm; rw [msOf_len, ← HN.out.1] at this; exact this
    have HQ : Hid (postOk (msOf qs) = (decide (k ≤ 40) && y)) := by rw [Hid, HY.out]; unfold postOk; rw [msOf_len, ← HN.out.2]
    go_enter Try.func10, Try.ntmps10
    go_wp2_with fail
    refine c1.mono ?_
    rintro e w1 ⟨rfl, b1⟩
    have B1 : Hid (Below w.heap.size w w1) := b1
    clear b1 c1
    by_cases h40 : (k : Int) > 40 - (n : Int)
    · have HE : Hid (r = (msOf ps, false)) := by
        rw [Hid, HR.out]
        unfold postP
        rw [← HX.out, HQ.out, msOf_len, msOf_len, ← HN.out.1, ← HN.out.2, show decide (n + k ≤ 40) = false from decide_eq_false (by omega)]
        simp
      clear HX HY CA C2
      go_wp2_with fail
      refine (C1.out w1 B1.out hn40).mono ?_
      rintro e w2 ⟨u2, rs, rfl, er, o2, b2⟩
      have B2 : Hid (Below w.heap.size w w2 ∧ OwnP w2 w.heap.size u2 rs ∧ msOf rs = msOf ps) := ⟨B1.out.trans (b2.mono B1.out.size), o2.mono B1.out.size, er⟩
      clear b2 o2 er C1 B1
      go_wp2
      go_ret2
      rw [HE.out]
      exact ⟨_, _, rfl, B2.out.2.2, B2.out.2.1, B2.out.1⟩
    · go_wp2_with fail
      refine (CA.out w1 B1.out).mono ?_
      rintro e w2 ⟨rfl, b2⟩
      have B2 : Hid (Below w.heap.size w w2) := B1.out.trans (b2.mono B1.out.size)
      clear b2 CA B1
      cases y with
      | false =>
        have HE : Hid (r = (msOf ps, false)) := by
          rw [Hid, HR.out]
          unfold postP
          rw [← HX.out, HQ.out]
          simp
        clear HX HY C2
        go_wp2_with fail
        refine (C1.out w2 B2.out hn40).mono ?_
        rintro e w3 ⟨u2, rs, rfl, er, o2, b3⟩
        have B3 : Hid (Below w.heap.size w w3 ∧ OwnP w3 w.heap.size u2 rs ∧ msOf rs = msOf ps) := ⟨B2.out.trans (b3.mono B2.out.size), o2.mono B2.out.size, er⟩
        clear b3 o2 er C1 B2
        go_wp2
        go_ret2
        rw [HE.out]
        exact ⟨_, _, rfl, B3.out.2.2, B3.out.2.1, B3.out.1⟩
      | true =>
        have HE : Hid (r = (msOf ps ++ msOf qs, true)) := by
          rw [Hid, HR.out]
          unfold postP
          rw [← HX.out, HQ.out, msOf_len, msOf_len, ← HN.out.1, ← HN.out.2, show decide (n + k ≤ 40) = true from decide_eq_true (by omega), show decide (k ≤ 40) = true from decide_eq_true (by omega)]
          rfl
        clear HX HY C1
        go_wp2_with fail
        refine (C2.out w2 B2.out hn40 (by omega)).mono ?_
        rintro e w3 ⟨u2, rs, rfl, er, o2, b3⟩
        have B3 : Hid (Below w.heap.size w w3 ∧ OwnP w3 w.heap.size u2 rs ∧ msOf rs = msOf ps ++ msOf qs) := ⟨B2.out.trans (b3.mono B2.out.size), o2.mono B2.out.size, er⟩
        clear b3 o2 er C2 B2
        go_wp2
        go_ret2
        rw [HE.out]
        exact ⟨_, _, rfl, B3.out.2.2, B3.out.2.1, B3.out.1⟩
end Go.Proofs.Ytjbfncjdedigdaa
/- The model's posts: Posted, Twice, Taken. -/
namespace Go.Proofs.Ytjbfncjdedigdaa
open Go.ChangeShapes Go.WideShapes Go.ChangeAt Go.RowKit

set_option maxRecDepth 20000 in
set_option maxHeartbeats 1000000 in
theorem sPosted_any (va vb : Value) (ps qs : List (Value × Mg)) (w : World) (ha : RdP w va ps) (hb : RdP w vb qs) (sa : SmP ps) (sb : SmP qs) (la : ps.length ≤ 1048576) (lb : qs.length ≤ 1048576) :
    Calls Try.prog 15 #[va, vb] w fun e w' => ∃ u rs, e = .returned (.tuple #[u, .bool (postP (msOf ps) (msOf qs)).2]) ∧ msOf rs = (postP (msOf ps) (msOf qs)).1 ∧ OwnP w' w.heap.size u rs ∧ Below w.heap.size w w' := by
  obtain ⟨i0, hi, hz0, hz1, hz2⟩ := info_parts Try.infoM
  have c1 := spostok_any va ps w ha sa
  have HA : Hid (∀ wx, Below w.heap.size w wx → RdP wx va ps) := fun wx b => ha.below b
  have HB : Hid (∀ wx, Below w.heap.size w wx → RdP wx vb qs) := fun wx b => hb.below b
  have CC : Hid (∀ wx, Below w.heap.size w wx → Calls Try.prog 37 #[va] wx fun e w' => ∃ u rs, e = .returned u ∧ msOf rs = msOf ps ∧ OwnP w' wx.heap.size u rs ∧ Below wx.heap.size wx w') := fun wx b => s16copy_any va ps wx (HA.out wx b) sa la
  have C2 : Hid (∀ wx, Below w.heap.size w wx → Calls Try.prog 37 #[vb] wx fun e w' => ∃ u rs, e = .returned u ∧ msOf rs = msOf qs ∧ OwnP w' wx.heap.size u rs ∧ Below wx.heap.size wx w') := fun wx b => s16copy_any vb qs wx (HB.out wx b) sb lb
  have C3 : Hid (∀ wx, Below w.heap.size w wx → Calls Try.prog 18 #[vb] wx fun e w' => e = .returned (.bool (postOk (msOf qs))) ∧ Below wx.heap.size wx w') := fun wx b => spostok_any vb qs wx (HB.out wx b) sb
  obtain ⟨r, hr⟩ : ∃ r, r = postP (msOf ps) (msOf qs) := ⟨_, rfl⟩
  rw [← hr]
  have HR : Hid (r = postP (msOf ps) (msOf qs)) := hr
  clear hr
  obtain ⟨x, hx⟩ : ∃ x, x = postOk (msOf ps) := ⟨_, rfl⟩
  rw [← hx] at c1
  obtain ⟨y, hy⟩ : ∃ y, y = postOk (msOf qs) := ⟨_, rfl⟩
  simp only [← hy] at C3
  obtain ⟨ao, ac, rfl⟩ := ha.form
  obtain ⟨bo, bc, rfl⟩ := hb.form
  have HX : Hid (x = postOk (msOf ps)) := hx
  have HY : Hid (y = postOk (msOf qs)) := hy
  obtain ⟨n, hn⟩ : ∃ n, n = ps.length := ⟨_, rfl⟩
  obtain ⟨k, hk⟩ : ∃ k, k = qs.length := ⟨_, rfl⟩
  rw [← hn] at HA CC c1 ⊢
  rw [← hk] at HB C2 C3 ⊢
  have HN : Hid (n = ps.length ∧ k = qs.length) := ⟨hn, hk⟩
  clear hx hy ha hb sa sb la lb hn hk
  cases x with
  | false =>
    have HE : Hid (r = ([], false)) := by rw [Hid, HR.out]; unfold postP; rw [← HX.out]; rfl
    clear HX
    go_enter Try.func15, Try.ntmps15
    go_wp2_with fail
    refine c1.mono ?_
    rintro e w1 ⟨rfl, b1⟩
    have HL : Hid (OwnP (w1.alloc (.cells #[] 35)) w.heap.size (.slice (some ⟨w1.heap.size, 0, none⟩) 0 0) [] ∧ Below w.heap.size w (w1.alloc (.cells #[] 35))) := ⟨OwnP.lit w1 _ b1.size, b1.alloc b1.size _⟩
    clear b1 c1
    go_wp2
    go_ret2
    rw [HE.out]
    exact ⟨_, _, rfl, rfl, HL.out.1, HL.out.2⟩
  | true =>
    have hn40 : n ≤ 40 := by have := postOk_len HX.out.symm; rw [msOf_len, ← HN.out.1] at this; exact this
    go_enter Try.func15, Try.ntmps15
    go_wp2_with fail
    refine c1.mono ?_
    rintro e w1 ⟨rfl, b1⟩
    have B1 : Hid (Below w.heap.size w w1) := b1
    clear b1 c1
    go_wp2_with fail
    refine (CC.out w1 B1.out).mono ?_
    rintro e w2 ⟨u2, rs, rfl, er, o2, b2⟩
    have B2 : Hid (Below w.heap.size w w2 ∧ OwnP w2 w.heap.size u2 rs ∧ msOf rs = msOf ps) := ⟨B1.out.trans (b2.mono B1.out.size), o2.mono B1.out.size, er⟩
    clear b2 o2 er CC B1
    go_wp2_with fail
    refine (C3.out w2 B2.out.1).mono ?_
    rintro e w3 ⟨rfl, b3⟩
    have B3 : Hid (Below w.heap.size w w3 ∧ OwnP w3 w.heap.size u2 rs ∧ msOf rs = msOf ps) := ⟨B2.out.1.trans (b3.mono B2.out.1.size), B2.out.2.1.below b3, B2.out.2.2⟩
    clear b3 B2 C3
    cases y with
    | false =>
      have HE : Hid (r = (msOf ps, false)) := by rw [Hid, HR.out]; unfold postP; rw [← HX.out, ← HY.out]; rfl
      clear HX HY
      go_wp2
      go_ret2
      rw [HE.out]
      exact ⟨_, _, rfl, B3.out.2.2, B3.out.2.1, B3.out.1⟩
    | true =>
      have hk40 : k ≤ 40 := by have := postOk_len HY.out.symm; rw [msOf_len, ← HN.out.2] at this; exact this
      by_cases h40 : (n : Int) + (k : Int) > 40
      · have HE : Hid (r = (msOf ps, false)) := by
          rw [Hid, HR.out]
          unfold postP
          rw [← HX.out, ← HY.out, msOf_len, msOf_len, ← HN.out.1, ← HN.out.2]
          rw [show decide (n + k ≤ 40) = false from decide_eq_false (by omega)]
          rfl
        clear HX HY
        go_wp2
        go_ret2
        rw [HE.out]
        exact ⟨_, _, rfl, B3.out.2.2, B3.out.2.1, B3.out.1⟩
      · have HE : Hid (r = (msOf ps ++ msOf qs, true)) := by
          rw [Hid, HR.out]
          unfold postP
          rw [← HX.out, ← HY.out, msOf_len, msOf_len, ← HN.out.1, ← HN.out.2]
          rw [show decide (n + k ≤ 40) = true from decide_eq_true (by omega)]
          rfl
        clear HX HY
        go_wp2_with fail
        refine (C2.out w3 B3.out.1).mono ?_
        rintro e w4 ⟨u4, ts, rfl, et, o4, b4⟩
        have B4 : Hid (Below w.heap.size w w4 ∧ OwnP w4 w.heap.size u2 rs) := ⟨B3.out.1.trans (b4.mono B3.out.1.size), B3.out.2.1.below b4⟩
        have hlr : (msC rs).length ≤ 40 := by
          have := congrArg List.length B3.out.2.2
          rw [msOf_len, msOf_len, ← HN.out.1] at this
          rw [msC_len]; omega
        have hlt : (msC ts).length = k := by
          have := congrArg List.length et
          rw [msOf_len, msOf_len, ← HN.out.2] at this
          rw [msC_len]; omega
        have hrow := B4.out.2.row.ow
        have hsz := B4.out.1.size
        obtain ⟨tA, tc, rfl⟩ := o4.rd.form
        have O4 : Hid (OwnP w4 w3.heap.size (.slice tA ts.length tc) ts ∧ Below w3.heap.size w3 w4 ∧ msOf ts = msOf qs) := ⟨o4, b4, et⟩
        have HT : Hid ((msC ts).length = k ∧ ts.length = k) := ⟨hlt, by rw [← hlt, msC_len]⟩
        have hc4 : ∀ ad, tA = some ad → ∀ j u, (flatC (msC ts))[j]? = some u → w4.cell? (ad.add j) = some u := fun ad e => flat_cells o4.rd (by rw [e])
        have hone := flat_one o4.rd
        have hfl : (flatC (msC ts)).length = ts.length * 11 := by rw [flatC_len _ (msC_sz ts), msC_len]
        rw [HT.out.2] at hfl O4 ⊢
        clear o4 b4 et C2 hlt
        cases tA with
        | none =>
          have h0 : k = 0 := by
            rcases O4.out.1.row.ow.2 with ⟨e, _⟩ | ⟨g, cap, cur, e, _⟩
            · simp at e; exact e.1
            · simp at e
          have hnil : ts = [] := List.eq_nil_of_length_eq_zero (by rw [HT.out.2, h0])
          subst h0
          have htc : tc = 0 := by
            rcases O4.out.1.row.ow.2 with ⟨e, _⟩ | ⟨g, cap, cur, e, _⟩
            · simp at e; exact e
            · simp at e
          subst htc
          clear hone hfl hc4
          go_wp2_with (at_builtin; refine wpList_append_own_none rfl _ _ 24 rfl w.heap.size 35 i0 11 Try.underlying24 hi _ _ _ rfl hrow rfl ?_)
          go_wp2
          go_ret2
          rw [HE.out]
          refine ⟨_, rs, rfl, ?_, B4.out.2, B4.out.1⟩
          rw [← O4.out.2.2, hnil, B3.out.2.2]
          simp [msOf]
        | some ad =>
          have hnews := hc4 ad rfl
          go_wp2_with (at_builtin; refine wpList_append_own _ rfl _ _ 24 rfl w.heap.size 35 i0 (.agg zeroMg) 11 104 Try.underlying24 hi hz0 hz1 hz2 rfl (by decide) _ _ _ rfl hrow ad k tc (flatC (msC ts)) rfl hfl hnews hone (by unfold maxLen; omega) (by omega) hsz ?_)
          intro v' w5 hown' hgrow _
          have HQ : Hid (OwnP w5 w.heap.size v' (rs ++ ts) ∧ Below w.heap.size w w5) := by
            refine ⟨B3.out.2.1.join O4.out.2.1 O4.out.1 B3.out.1.size (by rw [HT.out.1]; exact hown') hgrow, B4.out.1.grown hgrow B4.out.1.size (fun x e => (B4.out.2.row.lt x (by simp [e])).1)⟩
          clear hown' hgrow hrow hnews hone
          go_wp2
          go_ret2
          rw [HE.out]
          refine ⟨_, rs ++ ts, rfl, ?_, HQ.out.1, HQ.out.2⟩
          rw [← O4.out.2.2, ← B3.out.2.2]
          simp [msOf]

set_option maxRecDepth 20000 in
set_option maxHeartbeats 1000000 in
theorem sTwice_any (va : Value) (ps : List (Value × Mg)) (i : Int) (w : World) (ha : RdP w va ps) (sa : SmP ps) (la : ps.length ≤ 1048576) :
    Calls Try.prog 21 #[va, .int .i64 i] w fun e w' => ∃ u rs, e = .returned (.tuple #[u, .bool (twiceP (msOf ps) i).2]) ∧ msOf rs = (twiceP (msOf ps) i).1 ∧ OwnP w' w.heap.size u rs ∧ Below w.heap.size w w' := by
  obtain ⟨i0, hi, hz0, hz1, hz2⟩ := info_parts Try.infoM
  have c1 := spostok_any va ps w ha sa
  have HA : Hid (∀ wx, Below w.heap.size w wx → RdP wx va ps) := fun wx b => ha.below b
  have CC : Hid (∀ wx, Below w.heap.size w wx → Calls Try.prog 37 #[va] wx fun e w' => ∃ u rs, e = .returned u ∧ msOf rs = msOf ps ∧ OwnP w' wx.heap.size u rs ∧ Below wx.heap.size wx w') := fun wx b => s16copy_any va ps wx (HA.out wx b) sa la
  obtain ⟨r, hr⟩ : ∃ r, r = twiceP (msOf ps) i := ⟨_, rfl⟩
  rw [← hr]
  have HR : Hid (r = twiceP (msOf ps) i) := hr
  have HSm : Hid (SmP ps) := sa
  clear hr
  obtain ⟨x, hx⟩ : ∃ x, x = postOk (msOf ps) := ⟨_, rfl⟩
  rw [← hx] at c1
  obtain ⟨ao, ac, rfl⟩ := ha.form
  have HX : Hid (x = postOk (msOf ps)) := hx
  obtain ⟨-, hnc, hcm, -⟩ := ha.el
  unfold maxLen at hcm
  obtain ⟨n, hn⟩ : ∃ n, n = ps.length := ⟨_, rfl⟩
  rw [← hn] at HA CC c1 hnc ⊢
  have HN : Hid (n = ps.length) := hn
  clear hx ha sa la hn
  cases x with
  | false =>
    have HE : Hid (r = ([], false)) := by rw [Hid, HR.out]; unfold twiceP; rw [← HX.out]; rfl
    clear HX
    go_enter Try.func21, Try.ntmps21
    go_wp2_with fail
    refine c1.mono ?_
    rintro e w1 ⟨rfl, b1⟩
    have HL : Hid (OwnP (w1.alloc (.cells #[] 35)) w.heap.size (.slice (some ⟨w1.heap.size, 0, none⟩) 0 0) [] ∧ Below w.heap.size w (w1.alloc (.cells #[] 35))) := ⟨OwnP.lit w1 _ b1.size, b1.alloc b1.size _⟩
    clear b1 c1
    go_wp2
    go_ret2
    rw [HE.out]
    exact ⟨_, _, rfl, rfl, HL.out.1, HL.out.2⟩
  | true =>
    have hn40 : n ≤ 40 := by have := postOk_len HX.out.symm; rw [msOf_len, ← HN.out] at this; exact this
    have HF : Hid (¬ ((0 ≤ i ∧ i < (n : Int)) ∧ n ≠ 40) → r = (msOf ps, false)) := fun h => by
      rw [HR.out]
      unfold twiceP
      rw [← HX.out, msOf_len, ← HN.out, if_neg h]
      rfl
    have HG : Hid ((0 ≤ i ∧ i < (n : Int)) ∧ n ≠ 40 → r = (msOf ps ++ [(msOf ps).getD i.toNat Mg.zero], true)) := fun h => by
      rw [HR.out]
      unfold twiceP
      rw [← HX.out, msOf_len, ← HN.out, if_pos h]
      rfl
    clear HX HR
    go_enter Try.func21, Try.ntmps21
    go_wp2_with fail
    refine c1.mono ?_
    rintro e w1 ⟨rfl, b1⟩
    have B1 : Hid (Below w.heap.size w w1) := b1
    clear b1 c1
    go_wp2_with fail
    refine (CC.out w1 B1.out).mono ?_
    rintro e w2 ⟨u2, rs, rfl, er, o2, b2⟩
    have B2 : Hid (Below w.heap.size w w2 ∧ OwnP w2 w.heap.size u2 rs ∧ msOf rs = msOf ps) := ⟨B1.out.trans (b2.mono B1.out.size), o2.mono B1.out.size, er⟩
    clear b2 o2 er CC B1
    by_cases h0 : i < 0
    · have HE : Hid (r = (msOf ps, false)) := HF.out (by omega)
      clear HF HG
      go_wp2
      go_ret2
      rw [HE.out]
      exact ⟨_, _, rfl, B2.out.2.2, B2.out.2.1, B2.out.1⟩
    · by_cases h1 : i ≥ (n : Int)
      · have HE : Hid (r = (msOf ps, false)) := HF.out (by omega)
        clear HF HG
        go_wp2
        go_ret2
        rw [HE.out]
        exact ⟨_, _, rfl, B2.out.2.2, B2.out.2.1, B2.out.1⟩
      · by_cases h2 : (n : Int) = 40
        · have HE : Hid (r = (msOf ps, false)) := HF.out (by omega)
          have h3 : ((n : Int) == 40) = true := by simpa using h2
          clear HF HG h2
          go_wp2
          go_ret2
          rw [HE.out]
          exact ⟨_, _, rfl, B2.out.2.2, B2.out.2.1, B2.out.1⟩
        · have h3 : ((n : Int) == 40) = false := by simpa using h2
          have HE : Hid (r = (msOf ps ++ [(msOf ps).getD i.toNat Mg.zero], true)) := HG.out (by omega)
          clear HF HG h2
          obtain ⟨j, hj⟩ : ∃ j : Nat, i = j := ⟨i.toNat, by omega⟩
          subst hj
          obtain ⟨b, off, u, m, he, rfl, hrk, hc⟩ := (HA.out w2 B2.out.1).el.2.2.2 j (by omega)
          have C := s16copym_any u m w2 hrk (HSm.out.at he)
          have HC : Hid (∀ i, i < 11 → w2.cell? ⟨b, off + j * 11 + i, none⟩ = (mgA u m)[i]?) := hc
          have HM : Hid (msOf ps ++ [(msOf ps).getD (j : Int).toNat Mg.zero] = msOf ps ++ [m]) := by
            have := msOf_at he
            rw [Hid]
            simp [List.getD, this]
          have hlr : (msC rs).length ≤ 40 := by
            have := congrArg List.length B2.out.2.2
            rw [msOf_len, msOf_len, ← HN.out] at this
            rw [msC_len]; omega
          clear hc hrk he
          go_wp2_with (refine wpList_getO Try.isMg rfl _ rfl b (off + j * 11) rfl (mgA u m) rfl HC.out ?_)
          refine C.mono ?_
          rintro e w3 ⟨u3, rfl, o3, b3⟩
          have hu : u3.oneCell' = true := reads_one o3.reads
          have HP : Hid (OwnP w3 w.heap.size u2 rs ∧ Below w.heap.size w w3 ∧ Mine w3 w2.heap.size u3 m.h.ks ∧ Below w2.heap.size w2 w3) := ⟨B2.out.2.1.below b3, B2.out.1.trans (b3.mono B2.out.1.size), .inl o3, b3⟩
          clear C HC o3 b3
          unfold MgV
          have hrow : (w3.alloc (.cells (mgA u3 m) 35)).ownsRow w.heap.size 35 11 u2 (msC rs).length (flatC (msC rs)) := (HP.out.1.row.below ((Below.refl _ _).alloc (Nat.le_refl _) _)).ow
          have hsz : w.heap.size ≤ (w3.alloc (.cells (mgA u3 m) 35)).heap.size := by rw [World.size_alloc]; exact Nat.le_succ_of_le HP.out.2.1.size
          go_wp2_with (first | (at_builtin; refine wpList_append_own _ rfl _ _ 24 rfl w.heap.size 35 i0 (.agg zeroMg) 11 104 Try.underlying24 hi hz0 hz1 hz2 rfl (by decide) _ _ _ rfl hrow ⟨w3.heap.size, 0, none⟩ 1 1 (mgA u3 m).toList rfl rfl (new_cells w3 _ _) (mgA_each m hu) (by unfold maxLen; omega) (by omega) hsz ?_) | (refine wpList_litM rfl _ rfl u3 m rfl ?_))
          intro v' w4 hown' hgrow _
          have HQ : Hid (OwnP w4 w.heap.size v' (rs ++ [(u3, m)]) ∧ Below w.heap.size w w4) := by
            refine ⟨B2.out.2.1.push HP.out.2.2.1 HP.out.2.2.2 B2.out.1.size hown' hgrow, (HP.out.2.1.alloc HP.out.2.1.size _).grown hgrow (by rw [World.size_alloc]; exact Nat.le_succ_of_le HP.out.2.1.size) (fun x e => (HP.out.1.row.lt x (by simp [e])).1)⟩
          clear hrow hsz hown' hgrow
          go_wp2
          go_ret2
          rw [HE.out]
          exact ⟨_, _, rfl, by rw [HM.out, msOf_push, B2.out.2.2], HQ.out.1, HQ.out.2⟩
end Go.Proofs.Ytjbfncjdedigdaa
