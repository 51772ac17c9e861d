/- Stores in the state of a long walk. -/
import Derived.Test.YtpdggofaobmnlaaGreatDoorM10
import Derived.Test.YtpdggofaobmnlaaGreatDoorM7
namespace Go.Proofs.YtpdggofaobmnlaaGreatDoor
open Go.ChangeShapes Go.WideShapes Go.ChangeAt Go.RowKit

def Sto (u v q : Value) (xs ys ks : List Int) : Item :=
  ⟨u.ownBlock.toList ++ v.ownBlock.toList ++ q.ownBlock.toList, 0, fun w => OwnR w 0 u v q xs ys ks, fun _ _ e _ h =>
    ⟨⟨h.1.1.frame (fun b hb => e b (List.mem_append_left _ (List.mem_append_left _ hb))), h.1.2.1.frame (fun b hb => e b (List.mem_append_left _ (List.mem_append_right _ hb))), h.1.2.2⟩, h.2.1.frame (fun b hb => e b (List.mem_append_right _ hb)), h.2.2⟩⟩
theorem Sto.in {u v q : Value} {xs ys ks : List Int} {x : Nat} (hx : x ∈ (Sto u v q xs ys ks).blocks) : u.ownBlock = some x ∨ v.ownBlock = some x ∨ q.ownBlock = some x := by
  simp only [Sto, List.mem_append, Option.mem_toList] at hx
  rcases hx with (hx | hx) | hx
  · exact .inl hx
  · exact .inr (.inl hx)
  · exact .inr (.inr hx)
theorem Sta.store {w wx wy : World} {L : List Item} {u v q : Value} {xs ys ks : List Int} (h : Sta w wx L) (o : OwnR wy wx.heap.size u v q xs ys ks) (b : Below wx.heap.size wx wy) : Sta w wy (Sto u v q xs ys ks :: L) :=
  h.add b (Sto u v q xs ys ks) (o.mono (Nat.zero_le _)) (fun k hk => by
    rcases Sto.in hk with hk | hk | hk
    · exact o.1.1.lt k hk
    · exact o.1.2.1.lt k hk
    · exact o.2.1.lt k hk)
theorem Marked3.turned {w w' : World} {u v q : Value} (h : Marked3 w w' u v q) : Turned w w' (u.ownBlock.toList ++ v.ownBlock.toList ++ q.ownBlock.toList) := by
  obtain ⟨w1, m1, g2⟩ := h
  exact m1.turned.trans (Turned.of_grown g2)
theorem Sta.marked3 {w wx wy : World} {L : List Item} {u v q : Value} {xs ys ks zs ts ms : List Int} (h : Sta w wx L) (n : Nat) (e : L[n]? = some (Sto u v q xs ys ks)) (o : OwnR wy 0 u v q zs ts ms) (m : Marked3 wx wy u v q) : Sta w wy (L.set n (Sto u v q zs ts ms)) :=
  h.turn n e m.turned (Sto u v q zs ts ms) rfl o
theorem Sta.rA {w wx : World} {L : List Item} {u v q : Value} {xs ys ks : List Int} (h : Sta w wx L) (n : Nat) (e : L[n]? = some (Sto u v q xs ys ks)) : Reads wx u xs := (h.get n e).1.1.reads
theorem Sta.rB {w wx : World} {L : List Item} {u v q : Value} {xs ys ks : List Int} (h : Sta w wx L) (n : Nat) (e : L[n]? = some (Sto u v q xs ys ks)) : Reads wx v ys := (h.get n e).1.2.1.reads
theorem Sta.rK {w wx : World} {L : List Item} {u v q : Value} {xs ys ks : List Int} (h : Sta w wx L) (n : Nat) (e : L[n]? = some (Sto u v q xs ys ks)) : Reads wx q ks := (h.get n e).2.1.reads
theorem OwnR.putBy {w w' : World} {base g : Nat} {u v q : Value} {xs ys ks : List Int} {t : TypeId} {cs : Array Value} (h : OwnR w base u v q xs ys ks) (h' : StB w g t cs) (hne : t ≠ 2) (b : w.grownBy w' (some g)) : OwnR w' base u v q xs ys ks :=
  ⟨⟨h.1.1.putBy h' hne b, h.1.2.1.putBy h' hne b, h.1.2.2⟩, h.2.1.putBy h' hne b, h.2.2⟩
theorem OwnR.neB {w : World} {base g : Nat} {u v q : Value} {xs ys ks : List Int} {t : TypeId} {cs : Array Value} (h : OwnR w base u v q xs ys ks) (h' : StB w g t cs) (hne : t ≠ 2) {x : Nat} (hx : x ∈ (Sto u v q xs ys ks).blocks) : x ≠ g := by
  rintro rfl
  rcases Sto.in hx with hx | hx | hx
  · exact h.1.1.ne h' hne hx
  · exact h.1.2.1.ne h' hne hx
  · exact h.2.1.ne h' hne hx
theorem OwnR.inB {w : World} {base : Nat} {u v q : Value} {xs ys ks : List Int} (h : OwnR w base u v q xs ys ks) {x : Nat} (hx : x ∈ (Sto u v q xs ys ks).blocks) : base ≤ x ∧ x < w.heap.size := by
  rcases Sto.in hx with hx | hx | hx
  · exact h.1.1.lt x hx
  · exact h.1.2.1.lt x hx
  · exact h.2.1.lt x hx
/- A store's variable and its lists. -/
theorem Sta.addR {w wx wy : World} {L : List Item} (h : Sta w wx L) (b : Below wx.heap.size wx wy) {g : Nat} {t : TypeId} {cs : Array Value} {u v q : Value} {xs ys ks : List Int}
    (hg : StB wy g t cs) (o : OwnR wy wx.heap.size u v q xs ys ks) (lg : wx.heap.size ≤ g) (ti : t ≠ 2) : Sta w wy (Blk g t cs :: Sto u v q xs ys ks :: L) := by
  have h' := h.next b
  have sg := hg.lt
  have hL : ∀ j ∈ L, ∀ x ∈ j.blocks, x < wx.heap.size := fun j hj x hx => (h.bound j hj x hx).2
  have sz := h.below.size
  refine ⟨h'.below, ?_, ?_, ?_, ?_, ?_, h'.apart⟩
  · intro i hi
    simp only [List.mem_cons] at hi
    rcases hi with rfl | rfl | hi
    · exact Nat.zero_le _
    · exact Nat.zero_le _
    · exact h'.olds i hi
  · intro i hi
    simp only [List.mem_cons] at hi
    rcases hi with rfl | rfl | hi
    · exact hg
    · exact o.mono (Nat.zero_le _)
    · exact h'.holds i hi
  · intro i hi x hx
    simp only [List.mem_cons] at hi
    rcases hi with rfl | rfl | hi
    · simp only [Blk, List.mem_singleton] at hx; subst hx; omega
    · have := o.inB hx; omega
    · exact h'.bound i hi x hx
  · intro j hj x hx hx'
    simp only [Blk, List.mem_singleton] at hx
    subst hx
    simp only [List.mem_cons] at hj
    rcases hj with rfl | hj
    · exact o.neB hg ti hx' rfl
    · have := hL j hj x hx'; omega
  · intro j hj x hx hx'
    have := (o.inB hx).1
    have := hL j hj x hx'
    omega
/- A store's variable, an answer's variable, the store's lists. -/
theorem Sta.addR3 {w wx wy : World} {L : List Item} (h : Sta w wx L) (b : Below wx.heap.size wx wy) {g k : Nat} {t s : TypeId} {cs ds : Array Value} {u v q : Value} {xs ys ks : List Int}
    (hg : StB wy g t cs) (hk : StB wy k s ds) (o : OwnR wy wx.heap.size u v q xs ys ks) (lg : wx.heap.size ≤ g) (lk : wx.heap.size ≤ k) (ts : t ≠ s) (ti : t ≠ 2) (si : s ≠ 2) :
    Sta w wy (Blk g t cs :: Blk k s ds :: Sto u v q xs ys ks :: L) := by
  have h' := h.addR b hk o lk si
  have sg := hg.lt
  have hgk := hg.typ hk ts
  have hL : ∀ j ∈ L, ∀ x ∈ j.blocks, x < wx.heap.size := fun j hj x hx => (h.bound j hj x hx).2
  have sz := h.below.size
  refine ⟨h'.below, ?_, ?_, ?_, ?_, h'.apart⟩
  · intro i hi
    rw [List.mem_cons] at hi
    rcases hi with rfl | hi
    · exact Nat.zero_le _
    · exact h'.olds i hi
  · intro i hi
    rw [List.mem_cons] at hi
    rcases hi with rfl | hi
    · exact hg
    · exact h'.holds i hi
  · intro i hi x hx
    rw [List.mem_cons] at hi
    rcases hi with rfl | hi
    · simp only [Blk, List.mem_singleton] at hx; subst hx; omega
    · exact h'.bound i hi x hx
  · intro j hj x hx hx'
    simp only [Blk, List.mem_singleton] at hx
    subst hx
    simp only [List.mem_cons] at hj
    rcases hj with rfl | rfl | hj
    · simp only [Blk, List.mem_singleton] at hx'; exact hgk hx'
    · exact o.neB hg ti hx' rfl
    · have := hL j hj x hx'; omega
end Go.Proofs.YtpdggofaobmnlaaGreatDoor
/- How long a store's lists are, whatever is done to it. -/
namespace Go.Proofs.YtpdggofaobmnlaaGreatDoor
open Go.RowKit

theorem conf_fst (r : Hd × Bool) : (conf r).1 = r.1 := rfl
theorem act_len (h : Hd) (i : Int) (c : Cm) (hl : h.ks.length ≤ 1048576) : (h.act i c).1.ks.length ≤ 1048576 := by
  unfold Hd.act
  split
  · unfold Hd.regd Hd.free Hd.turn Hd.key
    split <;> simpa using hl
  · split
    · rw [conf_fst]; unfold Hd.resd Hd.take; split
      · exact hl
      · split <;> exact hl
    · split
      · rw [conf_fst]; unfold Hd.reld Hd.free; split
        · exact hl
        · split <;> exact hl
      · split
        · rw [conf_fst]; unfold Hd.clrd; split
          · exact hl
          · simp
        · split
          · split
            · exact hl
            · rw [conf_fst]
              unfold Hd.pred Hd.turn Hd.take
              split
              · exact hl
              · split
                · simpa [strike_len] using hl
                · simpa [strike_len] using hl
          · split <;> exact hl
theorem did_len (s : Sr) (i : Int) (c : Cm) (hx : s.xs.length ≤ 1048576) (hy : s.ys.length ≤ 1048576) (hk : s.h.ks.length ≤ 1048576) : (s.did i c).1.xs.length ≤ 1048576 ∧ (s.did i c).1.ys.length ≤ 1048576 ∧ (s.did i c).1.h.ks.length ≤ 1048576 := by
  unfold Sr.did
  split
  · split
    · unfold Sr.doing
      split
      · exact ⟨hx, hy, act_len s.h i c hk⟩
      · split
        · exact ⟨(didI_len s.xs s.ys c hx hy).1, (didI_len s.xs s.ys c hx hy).2, hk⟩
        · exact ⟨hx, hy, hk⟩
    · exact ⟨hx, hy, hk⟩
  · simp [Sr.zero, Hd.zero]
theorem power_len (s : Sr) (set : Int) (hx : s.xs.length ≤ 1048576) (hy : s.ys.length ≤ 1048576) (hk : s.h.ks.length ≤ 1048576) : (s.power set).xs.length ≤ 1048576 ∧ (s.power set).ys.length ≤ 1048576 ∧ (s.power set).h.ks.length ≤ 1048576 := by
  unfold Sr.power
  split
  · split
    · simp [chosenUp_len, hx, hk]
    · exact ⟨hx, hy, hk⟩
  · simp [Sr.zero, Hd.zero]
theorem new_len (n : Int) : (newS n).xs.length ≤ 1048576 ∧ (newS n).ys.length ≤ 1048576 ∧ (newS n).h.ks.length ≤ 1048576 := by
  unfold newS
  split
  · unfold zerosI Hd.new
    split
    · simp; omega
    · simp
  · simp [Sr.zero, Hd.zero]
end Go.Proofs.YtpdggofaobmnlaaGreatDoor
/- Holdings by the model, on: l8Registered, Registered, l8Holds, Holds, l8May, May. -/
namespace Go.Proofs.YtpdggofaobmnlaaGreatDoor
open Go.ChangeShapes Go.WideShapes Go.ChangeAt Go.RowKit

set_option maxRecDepth 20000 in
set_option maxHeartbeats 1000000 in
theorem s8reg_any (v : Value) (h : Hd) (i : Int) (w : World) (hr : Reads w v h.ks) (h0 : 0 ≤ i) (hi : i < (h.ks.length : Int)) :
    Calls Tryz.prog 52 #[HV v h, .int .i64 i] w fun e w' => e = .returned (.bool (regI h.ks i)) ∧ Below w.heap.size w w' := by
  have HE : Hid (regI h.ks i = decide (h.ks.getD i.toNat 0 ≠ 0)) := rfl
  obtain ⟨ao, cap, rfl⟩ := reads_form hr
  obtain ⟨w1, hw1⟩ : ∃ w1, w1 = w.alloc (.cells (hdA (.slice ao h.ks.length cap) h) 28) := ⟨_, rfl⟩
  have H1 : HdB w1 w.heap.size 28 (.slice ao h.ks.length cap) h := by rw [hw1]; exact HdB.new _ hr
  have HB : Hid (Below w.heap.size w w1) := by rw [hw1]; exact (Below.refl _ _).alloc (Nat.le_refl _) _
  obtain ⟨-, hc1, hc2, hcell⟩ := reads_cells H1.2
  obtain ⟨b, off, rfl, hcj⟩ := hcell i.toNat (by omega)
  obtain ⟨y, hy⟩ : ∃ y, y = h.ks.getD i.toNat 0 := ⟨_, rfl⟩
  rw [← hy] at hcj HE
  have hic : ((i.toNat : Nat) : Int) = i := by omega
  have k0 : w1.cell? ⟨w.heap.size, 0, none⟩ = some (.slice (some ⟨b, off, none⟩) h.ks.length cap) := H1.1.cell 0 rfl
  have HW : Hid (w1 = w.alloc (.cells #[.slice (some ⟨b, off, none⟩) h.ks.length cap, .int .i64 h.kd, .int .i64 h.ho, .int .i64 h.tu] 28)) := hw1
  unfold maxLen at hc2
  unfold HV hdA
  obtain ⟨n, hn⟩ : ∃ n, n = h.ks.length := ⟨_, rfl⟩
  rw [← hn] at k0 HW hi hc1 ⊢
  clear hcell hy hr hw1 H1 hn
  have hw := HW.out
  subst hw
  by_cases hy0 : y = 0
  · go_enter Tryz.func52, Tryz.ntmps52
    go_wp2
    go_ret
    exact ⟨ret_bool (by rw [HE.out]; simp [hy0]), HB.out⟩
  · have hyn : (y != 0) = true := by simpa using hy0
    go_enter Tryz.func52, Tryz.ntmps52
    go_wp2
    go_ret
    exact ⟨ret_bool (by rw [HE.out]; simp [hy0]), HB.out⟩

set_option maxRecDepth 20000 in
set_option maxHeartbeats 1000000 in
theorem s8holds_any (v : Value) (h : Hd) (i : Int) (w : World) (hr : Reads w v h.ks) (h0 : 0 ≤ i) (hi : i < (h.ks.length : Int)) :
    Calls Tryz.prog 97 #[HV v h, .int .i64 i] w fun e w' => e = .returned (.bool (h.holds i)) ∧ Below w.heap.size w w' := by
  have HE : Hid (h.holds i = (decide (h.kd ≠ 0) && (decide (h.ho = i) || (allI h.kd && regI h.ks i)))) := rfl
  have B1 : Below w.heap.size w (w.alloc (.cells (hdA v h) 28)) := (Below.refl _ _).alloc (Nat.le_refl _) _
  have cf := fun wx => sall_any h.kd wx
  have cr := s8reg_any v h i (w.alloc (.cells (hdA v h) 28)) (hr.below B1 (Nat.le_refl _)) h0 hi
  obtain ⟨x, hx⟩ : ∃ x, x = h.holds i := ⟨_, rfl⟩
  obtain ⟨bf, hbf⟩ : ∃ bf, bf = allI h.kd := ⟨_, rfl⟩
  obtain ⟨br, hbr⟩ : ∃ br, br = regI h.ks i := ⟨_, rfl⟩
  rw [← hx] at HE ⊢
  rw [← hbf, ← hbr] at HE
  rw [← hbr] at cr
  simp only [← hbf] at cf
  have hone := reads_one hr
  obtain ⟨ao, cap, rfl⟩ := reads_form hr
  clear hx hbf hbr hr hone
  unfold HV hdA at *
  by_cases hk : h.kd = 0
  · have HX : Hid (x = false) := by rw [Hid, HE.out]; simp [hk]
    clear HE cf cr
    go_enter Tryz.func97, Tryz.ntmps97
    go_wp2
    go_ret
    exact ⟨ret_bool (by rw [HX.out]), by first | exact B1 | (rw [hk] at B1; exact B1)⟩
  · have hkn : (h.kd != 0) = true := by simpa using hk
    by_cases hoi : h.ho = i
    · have HX : Hid (x = true) := by rw [Hid, HE.out]; simp [hk, hoi]
      clear HE cf cr
      subst hoi
      go_enter Tryz.func97, Tryz.ntmps97
      go_wp2
      go_ret
      exact ⟨ret_bool (by rw [HX.out]), B1⟩
    · have HX : Hid (x = (bf && br)) := by rw [Hid, HE.out]; simp [hk, hoi]
      clear HE
      have hon : (h.ho == i) = false := by simpa using hoi
      cases bf with
      | false =>
        clear cr
        go_enter Tryz.func97, Tryz.ntmps97
        go_wp2_with fail
        refine (cf _).mono ?_
        rintro e w' ⟨rfl, hw⟩; subst w'
        go_wp2
        go_ret
        exact ⟨ret_bool (by rw [HX.out]; rfl), B1⟩
      | true =>
        go_enter Tryz.func97, Tryz.ntmps97
        go_wp2_with fail
        refine (cf _).mono ?_
        rintro e w' ⟨rfl, hw⟩; subst w'
        go_wp2_with fail
        refine cr.mono ?_
        rintro e w2 ⟨rfl, b2⟩
        have B2 := B1.trans (b2.mono B1.size)
        clear b2 B1 cr cf
        go_wp2
        go_ret
        exact ⟨ret_bool (by rw [HX.out]; simp), B2⟩

set_option maxRecDepth 20000 in
set_option maxHeartbeats 1000000 in
theorem sReg_any (v : Value) (h : Hd) (i : Int) (w : World) (hr : Reads w v h.ks) (hl : h.ks.length ≤ 1099511627776) :
    Calls Tryz.prog 19 #[HV v h, .int .i64 i] w fun e w' => e = .returned (.bool (h.Reg i)) ∧ Below w.heap.size w w' := by
  have HE : Hid (h.Reg i = (h.ok && inI i 0 3 && regI h.ks i)) := rfl
  have B1 : Below w.heap.size w (w.alloc (.cells (hdA v h) 28)) := (Below.refl _ _).alloc (Nat.le_refl _) _
  have H1 := HdB.new (v := v) (h := h) 28 hr
  have co := sholdok_any v h (w.alloc (.cells (hdA v h) 28)) H1.2 hl
  have cw := fun wx => swho_any i wx
  have cr := fun wx (k : Reads wx v h.ks) (a1 : 0 ≤ i) (b1 : i < (h.ks.length : Int)) => s8reg_any v h i wx k a1 b1
  have HL : Hid (h.ok = true → h.ks.length = 4) := Hd.ok_len
  obtain ⟨x, hx⟩ : ∃ x, x = h.Reg i := ⟨_, rfl⟩
  obtain ⟨bo, hbo⟩ : ∃ bo, bo = h.ok := ⟨_, rfl⟩
  obtain ⟨bw, hbw⟩ : ∃ bw, bw = inI i 0 3 := ⟨_, rfl⟩
  obtain ⟨br, hbr⟩ : ∃ br, br = regI h.ks i := ⟨_, rfl⟩
  have HWR : Hid (bw = true → 0 ≤ i ∧ i ≤ 3) := fun e => (inI_iff _ _ _).1 (by rw [← hbw, e])
  rw [← hx] at HE ⊢
  rw [← hbo, ← hbw, ← hbr] at HE
  rw [← hbo] at co HL
  simp only [← hbw] at cw
  simp only [← hbr] at cr
  obtain ⟨ao, cap, rfl⟩ := reads_form hr
  clear hx hbo hbw hbr hr hl
  have Hcr : Hid _ := cr
  have HH : Hid _ := H1
  clear cr H1
  unfold HV hdA at *
  go_enter Tryz.func19, Tryz.ntmps19
  go_wp2_with fail
  refine co.mono ?_
  rintro e w2 ⟨rfl, b2⟩
  have H2 : Hid (HdB w2 w.heap.size 28 (.slice ao h.ks.length cap) h) := HdB.below HH.out b2
  have B2 := B1.trans (b2.mono B1.size)
  clear HH b2 B1 co
  cases bo with
  | false =>
    go_wp2
    go_ret
    exact ⟨ret_bool (by rw [HE.out]; rfl), B2⟩
  | true =>
    have hlen := HL.out rfl
    go_wp2_with fail
    refine (cw _).mono ?_
    rintro e w' ⟨rfl, hw⟩; subst w'
    clear cw
    cases bw with
    | false =>
      clear hlen
      go_wp2
      go_ret
      exact ⟨ret_bool (by rw [HE.out]; rfl), B2⟩
    | true =>
      obtain ⟨hi0, hi3⟩ := HWR.out rfl
      have cr := Hcr.out w2 H2.out.2 hi0 (by omega)
      have k0 : w2.cell? ⟨w.heap.size, 0, none⟩ = some (.slice ao h.ks.length cap) := H2.out.1.cell 0 rfl
      have k1 : w2.cell? ⟨w.heap.size, 1, none⟩ = some (.int .i64 h.kd) := H2.out.1.cell 1 rfl
      have k2 : w2.cell? ⟨w.heap.size, 2, none⟩ = some (.int .i64 h.ho) := H2.out.1.cell 2 rfl
      have k3 : w2.cell? ⟨w.heap.size, 3, none⟩ = some (.int .i64 h.tu) := H2.out.1.cell 3 rfl
      clear hlen Hcr HL
      go_wp2_with fail
      refine cr.mono ?_
      rintro e w3 ⟨rfl, b3⟩
      have B3 := B2.trans (b3.mono B2.size)
      clear k0 k1 k2 k3 b3 cr H2
      go_wp2
      go_ret
      exact ⟨ret_bool (by rw [HE.out]; simp), B3⟩

set_option maxRecDepth 20000 in
set_option maxHeartbeats 2000000 in
theorem s8may_any (v : Value) (h : Hd) (i : Int) (b : Bool) (w : World) (hr : Reads w v h.ks) (h0 : 0 ≤ i) (hi : i < (h.ks.length : Int)) :
    Calls Tryz.prog 51 #[HV v h, .int .i64 i, .bool b] w fun e w' => e = .returned (.bool (h.may i b)) ∧ Below w.heap.size w w' := by
  have HE : Hid (h.may i b = mayI h.kd b (h.holds i) (regI h.ks i)) := rfl
  obtain ⟨w1, hw1⟩ : ∃ w1, w1 = w.alloc (.cells (hdA v h) 28) := ⟨_, rfl⟩
  have HH : Hid (HdB w1 w.heap.size 28 v h ∧ Below w.heap.size w w1) := by rw [hw1]; exact ⟨HdB.new _ hr, (Below.refl _ _).alloc (Nat.le_refl _) _⟩
  have ch := fun wx (k : Reads wx v h.ks) => s8holds_any v h i wx k h0 hi
  have cr := fun wx (k : Reads wx v h.ks) => s8reg_any v h i wx k h0 hi
  have cm := fun wx => smay_any h.kd b (h.holds i) (regI h.ks i) wx
  obtain ⟨x, hx⟩ : ∃ x, x = h.may i b := ⟨_, rfl⟩
  obtain ⟨bh, hbh⟩ : ∃ bh, bh = h.holds i := ⟨_, rfl⟩
  obtain ⟨br, hbr⟩ : ∃ br, br = regI h.ks i := ⟨_, rfl⟩
  rw [← hx] at HE ⊢
  rw [← hbh, ← hbr] at HE
  simp only [← hbh] at ch
  simp only [← hbr] at cr
  simp only [← hbh, ← hbr] at cm
  rw [← HE.out] at cm
  obtain ⟨ao, cap, rfl⟩ := reads_form hr
  clear hx hbh hbr hr
  unfold HV at *
  unfold hdA at *
  have HW : Hid _ := hw1
  have k0 : w1.cell? ⟨w.heap.size, 0, none⟩ = some (.slice ao h.ks.length cap) := HH.out.1.1.cell 0 rfl
  have k1 : w1.cell? ⟨w.heap.size, 1, none⟩ = some (.int .i64 h.kd) := HH.out.1.1.cell 1 rfl
  have k2 : w1.cell? ⟨w.heap.size, 2, none⟩ = some (.int .i64 h.ho) := HH.out.1.1.cell 2 rfl
  have k3 : w1.cell? ⟨w.heap.size, 3, none⟩ = some (.int .i64 h.tu) := HH.out.1.1.cell 3 rfl
  clear hw1
  go_enter Tryz.func51, Tryz.ntmps51
  go_wp2_with fail
  rw [← HW.out]
  clear HW
  go_region_held3 (fun w' => w'.cell? ⟨w.heap.size, 0, none⟩ = some (.slice ao h.ks.length cap) ∧ w'.cell? ⟨w.heap.size, 1, none⟩ = some (.int .i64 h.kd) ∧ w'.cell? ⟨w.heap.size, 2, none⟩ = some (.int .i64 h.ho) ∧ w'.cell? ⟨w.heap.size, 3, none⟩ = some (.int .i64 h.tu)) (go_keep)
    (first
    | (go_at_call 97; refine (ch _ (HH.out.1.drewN 1).2).mono ?_; rintro e wA ⟨rfl, bA⟩; have HA : Hid (HdB wA w.heap.size 28 (.slice ao h.ks.length cap) h ∧ Below w.heap.size w wA) := ⟨(HH.out.1.drewN 1).below bA, (below_drewN HH.out.2 1).trans (bA.mono (below_drewN HH.out.2 1).size)⟩; clear bA; have ka0 : wA.cell? ⟨w.heap.size, 0, none⟩ = some (.slice ao h.ks.length cap) := HA.out.1.1.cell 0 rfl; have ka1 : wA.cell? ⟨w.heap.size, 1, none⟩ = some (.int .i64 h.kd) := HA.out.1.1.cell 1 rfl; have ka2 : wA.cell? ⟨w.heap.size, 2, none⟩ = some (.int .i64 h.ho) := HA.out.1.1.cell 2 rfl; have ka3 : wA.cell? ⟨w.heap.size, 3, none⟩ = some (.int .i64 h.tu) := HA.out.1.1.cell 3 rfl)
    | (go_at_call 52; refine (cr _ HA.out.1.2).mono ?_; rintro e wB ⟨rfl, bB⟩; have HB : Hid (HdB wB w.heap.size 28 (.slice ao h.ks.length cap) h ∧ Below w.heap.size w wB) := ⟨HA.out.1.below bB, HA.out.2.trans (bB.mono HA.out.2.size)⟩; clear bB; have kb0 : wB.cell? ⟨w.heap.size, 0, none⟩ = some (.slice ao h.ks.length cap) := HB.out.1.1.cell 0 rfl; have kb1 : wB.cell? ⟨w.heap.size, 1, none⟩ = some (.int .i64 h.kd) := HB.out.1.1.cell 1 rfl; have kb2 : wB.cell? ⟨w.heap.size, 2, none⟩ = some (.int .i64 h.ho) := HB.out.1.1.cell 2 rfl; have kb3 : wB.cell? ⟨w.heap.size, 3, none⟩ = some (.int .i64 h.tu) := HB.out.1.1.cell 3 rfl)
    | (go_at_call 96; refine (cm _).mono ?_; rintro e w' ⟨rfl, hw'⟩; subst w'))
  go_wp2
  go_ret
  exact ⟨rfl, HB.out.2⟩

set_option maxRecDepth 20000 in
set_option maxHeartbeats 1000000 in
theorem sMay_any (v : Value) (h : Hd) (i : Int) (b : Bool) (w : World) (hr : Reads w v h.ks) (hl : h.ks.length ≤ 1099511627776) :
    Calls Tryz.prog 17 #[HV v h, .int .i64 i, .bool b] w fun e w' => e = .returned (.bool (h.May i b)) ∧ Below w.heap.size w w' := by
  have HE : Hid (h.May i b = (h.ok && inI i 0 3 && h.may i b)) := rfl
  have B1 : Below w.heap.size w (w.alloc (.cells (hdA v h) 28)) := (Below.refl _ _).alloc (Nat.le_refl _) _
  have H1 := HdB.new (v := v) (h := h) 28 hr
  have co := sholdok_any v h (w.alloc (.cells (hdA v h) 28)) H1.2 hl
  have cw := fun wx => swho_any i wx
  have cr := fun wx (k : Reads wx v h.ks) (a1 : 0 ≤ i) (b1 : i < (h.ks.length : Int)) => s8may_any v h i b wx k a1 b1
  have HL : Hid (h.ok = true → h.ks.length = 4) := Hd.ok_len
  obtain ⟨x, hx⟩ : ∃ x, x = h.May i b := ⟨_, rfl⟩
  obtain ⟨bo, hbo⟩ : ∃ bo, bo = h.ok := ⟨_, rfl⟩
  obtain ⟨bw, hbw⟩ : ∃ bw, bw = inI i 0 3 := ⟨_, rfl⟩
  obtain ⟨br, hbr⟩ : ∃ br, br = h.may i b := ⟨_, rfl⟩
  have HWR : Hid (bw = true → 0 ≤ i ∧ i ≤ 3) := fun e => (inI_iff _ _ _).1 (by rw [← hbw, e])
  rw [← hx] at HE ⊢
  rw [← hbo, ← hbw, ← hbr] at HE
  rw [← hbo] at co HL
  simp only [← hbw] at cw
  simp only [← hbr] at cr
  obtain ⟨ao, cap, rfl⟩ := reads_form hr
  clear hx hbo hbw hbr hr hl
  have Hcr : Hid _ := cr
  have HH : Hid _ := H1
  clear cr H1
  unfold HV hdA at *
  go_enter Tryz.func17, Tryz.ntmps17
  go_wp2_with fail
  refine co.mono ?_
  rintro e w2 ⟨rfl, b2⟩
  have H2 : Hid (HdB w2 w.heap.size 28 (.slice ao h.ks.length cap) h) := HdB.below HH.out b2
  have B2 := B1.trans (b2.mono B1.size)
  clear HH b2 B1 co
  cases bo with
  | false =>
    go_wp2
    go_ret
    exact ⟨ret_bool (by rw [HE.out]; rfl), B2⟩
  | true =>
    have hlen := HL.out rfl
    go_wp2_with fail
    refine (cw _).mono ?_
    rintro e w' ⟨rfl, hw⟩; subst w'
    clear cw
    cases bw with
    | false =>
      clear hlen
      go_wp2
      go_ret
      exact ⟨ret_bool (by rw [HE.out]; rfl), B2⟩
    | true =>
      obtain ⟨hi0, hi3⟩ := HWR.out rfl
      have cr := Hcr.out w2 H2.out.2 hi0 (by omega)
      have k0 : w2.cell? ⟨w.heap.size, 0, none⟩ = some (.slice ao h.ks.length cap) := H2.out.1.cell 0 rfl
      have k1 : w2.cell? ⟨w.heap.size, 1, none⟩ = some (.int .i64 h.kd) := H2.out.1.cell 1 rfl
      have k2 : w2.cell? ⟨w.heap.size, 2, none⟩ = some (.int .i64 h.ho) := H2.out.1.cell 2 rfl
      have k3 : w2.cell? ⟨w.heap.size, 3, none⟩ = some (.int .i64 h.tu) := H2.out.1.cell 3 rfl
      clear hlen Hcr HL
      go_wp2_with fail
      refine cr.mono ?_
      rintro e w3 ⟨rfl, b3⟩
      have B3 := B2.trans (b3.mono B2.size)
      clear k0 k1 k2 k3 b3 cr H2
      go_wp2
      go_ret
      exact ⟨ret_bool (by rw [HE.out]; simp), B3⟩
end Go.Proofs.YtpdggofaobmnlaaGreatDoor
