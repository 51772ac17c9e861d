/- What Recalled of the model answers. -/
import Derived.Test.YtjdmbjeginnjiaaDoorSReadR
namespace Go.Proofs.YtjdmbjeginnjiaaDoor
open Go.ChangeShapes Go.WideShapes Go.ChangeAt Go.RowKit

theorem step_yes {x : Bs} (a : Option (Rc × Nat)) (n : Nat) (h : isR x = true) : stepE a (x, n) = some (recO x, n) := by
  unfold isR recO at *
  unfold stepE
  cases hr : readR x with
  | none => rw [hr] at h; cases h
  | some r => rfl
theorem step_no {x : Bs} (a : Option (Rc × Nat)) (n : Nat) (h : isR x = false) : stepE a (x, n) = a := by
  unfold isR at h
  unfold stepE
  cases hr : readR x with
  | none => rfl
  | some r => rw [hr] at h; cases h
theorem results_R3 {fn : Func} {p q u : Tmp} (h : fn.results = #[.cell p 25, .tmp q, .tmp u]) (tmps : Array Value) (w : World) (g : Nat) (r : Rc) (x y : Value)
    (hp : tmps.getD p undef = .pointer (some ⟨g, 0, none⟩)) (hx : tmps.getD q undef = x) (hy : tmps.getD u undef = y) (hr : RecB w g 25 r) : (results fn tmps).run Tryd.prog w = .ok (.tuple #[RV r, x, y]) w := by
  obtain ⟨fs, hu⟩ := Tryd.underR
  have hl := run_loadVar_row w g _ _ _ _ _ hr hu rfl Tryd.infoR
  have hp' : tmps[p]?.getD undef = .pointer (some ⟨g, 0, none⟩) := by simpa using hp
  have hx' : tmps[q]?.getD undef = x := by simpa using hx
  have hy' : tmps[u]?.getD undef = y := by simpa using hy
  simp [results, h, hp', hx', hy', asAddr, hl]
  rfl

theorem RecB.set4 {w : World} {g : Nat} {t : TypeId} {q : Rc} (h : RecB w g t q) (r : Rc) : RecB ((((w.setCell ⟨g, 0, none⟩ (.int .i64 r.e)).setCell ⟨g, 1, none⟩ (.int .i64 r.s)).setCell ⟨g, 2, none⟩ (.int .i64 r.t)).setCell ⟨g, 3, none⟩ (.int .i64 r.n)) g t r := by
  have h0 := heap_setCell_same w g 0 _ _ (.int .i64 r.e) h
  have h1 := heap_setCell_same _ g 1 _ _ (.int .i64 r.s) h0
  have h2 := heap_setCell_same _ g 2 _ _ (.int .i64 r.t) h1
  exact heap_setCell_same _ g 3 _ _ (.int .i64 r.n) h2
theorem below_set4 {w0 w : World} {g : Nat} (B : Below w0.heap.size w0 w) (hg : w0.heap.size ≤ g) (a b c d : Value) : Below w0.heap.size w0 ((((w.setCell ⟨g, 0, none⟩ a).setCell ⟨g, 1, none⟩ b).setCell ⟨g, 2, none⟩ c).setCell ⟨g, 3, none⟩ d) :=
  (((B.setCell (p := ⟨g, 0, none⟩) hg a).setCell (p := ⟨g, 1, none⟩) hg b).setCell (p := ⟨g, 2, none⟩) hg c).setCell (p := ⟨g, 3, none⟩) hg d

set_option maxRecDepth 20000 in
set_option maxHeartbeats 4000000 in
theorem srecall_any (s : Bs) (w : World) (hl : s.length ≤ 1048576) :
    Calls Tryd.prog 21 #[S s] w fun e w' => e = .returned (.tuple #[RV (recR (recallB s)), S (s.take (recAt (recallB s))), .bool (recallB s).isSome]) ∧ Below w.heap.size w w' := by
  have hsz : (⟨s.toArray⟩ : ByteArray).size = s.length := rfl
  have R0 := RecB.new w 25 Rc.zero
  have B0 : Below w.heap.size w (w.alloc (.cells (recA Rc.zero) 25)) := (Below.refl _ _).alloc (Nat.le_refl _) _
  have c1 := fun wx => sframes_any s wx hl
  obtain ⟨hpl, -, hcl, hxl⟩ := framesB_sound s
  have hle := framesB_le s
  have HST : Hid (∀ i, i < (framesB s).1.length → recallE ((wholeE s).take (i + 1)) = stepE (recallE ((wholeE s).take i)) ((framesB s).1.getD i [], (cat ((framesB s).1.take (i + 1))).length)) := recall_step s
  have HAL : Hid (recallE ((wholeE s).take (framesB s).1.length) = recallB s) := recall_all s
  have HLE : Hid (∀ i, i ≤ (framesB s).1.length → recAt (recallE ((wholeE s).take i)) ≤ s.length) := recall_le_take s
  have HCL : Hid (∀ i, (cat ((framesB s).1.take i)).length ≤ s.length) := fun i => by have := cat_take_len (framesB s).1 i; omega
  obtain ⟨xs, hxs⟩ : ∃ xs, xs = (framesB s).1 := ⟨_, rfl⟩
  obtain ⟨n0, hn0⟩ : ∃ n0, n0 = (framesB s).2 := ⟨_, rfl⟩
  rw [← hxs] at hpl hcl hxl HST HAL HLE HCL
  simp only [← hxs, ← hn0] at c1
  have HPL : Hid (∀ t ∈ xs, plainB t = true) := hpl
  obtain ⟨ws, hws⟩ : ∃ ws, ws = wholeE s := ⟨_, rfl⟩
  rw [← hws] at HST HAL HLE
  clear hxs hn0 hws hpl hcl hle
  unfold S at *
  go_enter Tryd.func21, Tryd.ntmps21
  go_wp2_with fail
  refine (c1 _).mono ?_
  rintro e wS ⟨u, rfl, o1, b1⟩
  have RS := R0.below b1
  have BS := B0.trans (b1.mono B0.size)
  have hsS : w.heap.size < wS.heap.size := RS.lt
  obtain ⟨ao, cap, rfl, hcap, -, -⟩ := o1.reads
  have HR0 : Hid (ReadsS wS (.slice ao xs.length cap) xs) := o1.reads
  have QS := RecB.new wS 25 Rc.zero
  clear c1 b1 R0 B0 o1
  go_wp2
  go_loopw [7, 9, 10, 11] (fun us at' fo i wr => ∃ (j n : Nat) (a : Option (Rc × Nat)), i = .int .i64 j ∧ (j : Int) ≤ xs.length ∧ us = .int .i64 n ∧ (n : Int) ≤ s.length ∧ at' = .int .i64 (recAt a : Nat) ∧ fo = .bool a.isSome ∧ Hid (n = (cat (xs.take j)).length ∧ a = recallE (ws.take j) ∧ RecB wr wS.heap.size 25 (recR a) ∧ Below wS.heap.size wS wr)) (fun _ _ _ i _ => xs.length - (intOf i).toNat)
  case atStart =>
    refine ⟨0, 0, none, rfl, by omega, rfl, by omega, rfl, rfl, by simp [cat], rfl, QS, (Below.refl _ _).alloc (Nat.le_refl _) _⟩
  case round =>
    obtain ⟨j, n, a, rfl, hj, rfl, hn, rfl, rfl, HR⟩ := hrel
    by_cases hlt : (j : Int) < (xs.length : Int)
    · have hjx : j < xs.length := by omega
      have hpx := HPL.out _ (getD_mem xs j hjx)
      have hx3 : (xs.getD j []).length ≤ 300 := plainB_len hpx
      have c2 := fun wx => sl4Framed_any (xs.getD j []) wx (by omega)
      have c3 := fun wx => sreadR_any (xs.getD j []) wx (by omega)
      obtain ⟨ao', cap', he, _, _, hcells⟩ := HR0.out.below HR.out.2.2.2 (Nat.le_refl _)
      cases he
      have hce : ∃ b off, ao = some ⟨b, off, none⟩ ∧ wr.cell? ⟨b, off + j, none⟩ = some (.string ⟨(xs.getD j []).toArray⟩) := by
        rcases hcells with e | ⟨b, off, e, h4⟩
        · rw [e] at hjx; simp at hjx
        · exact ⟨b, off, e, h4 j hjx⟩
      obtain ⟨vb, vo, rfl, hcell⟩ := hce
      have hvlt : vb < wr.heap.size := World.block_lt_of_cell? wr _ hcell
      have hcat := cat_take xs j hjx
      have HN : Hid ((cat (xs.take (j + 1))).length = n + (framed (xs.getD j [])).length) := by rw [Hid, hcat, List.length_append, ← HR.out.1]
      have hnl : n + (framed (xs.getD j [])).length ≤ s.length := by rw [← HN.out]; exact HCL.out _
      have HS : Hid (recallE (ws.take (j + 1)) = stepE a (xs.getD j [], n + (framed (xs.getD j [])).length)) := by
        rw [Hid, HST.out j hjx, ← HR.out.2.1, HN.out]
      have HLJ : Hid (recAt (recallE (ws.take (j + 1))) ≤ s.length) := HLE.out _ (by omega)
      have HY : Hid (isR (xs.getD j []) = true → recallE (ws.take (j + 1)) = some (recO (xs.getD j []), n + (framed (xs.getD j [])).length)) := fun h => by rw [HS.out, step_yes _ _ h]
      have HNo : Hid (isR (xs.getD j []) = false → recallE (ws.take (j + 1)) = a) := fun h => by rw [HS.out, step_no _ _ h]
      obtain ⟨x, hx⟩ : ∃ x, x = xs.getD j [] := ⟨_, rfl⟩
      obtain ⟨f, hf⟩ : ∃ f, f = framed (xs.getD j []) := ⟨_, rfl⟩
      obtain ⟨r, hr⟩ : ∃ r, r = recO (xs.getD j []) := ⟨_, rfl⟩
      obtain ⟨b, hb⟩ : ∃ b, b = isR (xs.getD j []) := ⟨_, rfl⟩
      rw [← hb] at HY HNo
      rw [← hf, ← hr] at HY
      rw [← hf] at HN hnl
      simp only [← hf] at c2
      simp only [← hr, ← hb] at c3
      rw [← hx] at hcell
      simp only [← hx] at c2 c3
      have hfz : (⟨f.toArray⟩ : ByteArray).size = f.length := rfl
      unfold S at c2 c3
      clear hx hf hr hb hcat hpx hcells HS
      go_wp2_with fail
      refine (c2 _).mono ?_
      rintro e w1 ⟨rfl, b1⟩
      have HR1 : Hid (RecB w1 wS.heap.size 25 (recR a) ∧ Below wS.heap.size wS w1) := ⟨HR.out.2.2.1.below b1, HR.out.2.2.2.trans (b1.mono HR.out.2.2.2.size)⟩
      have hcell1 : w1.cell? ⟨vb, vo + j, none⟩ = some (.string ⟨x.toArray⟩) := by
        rw [b1.cell (p := ⟨vb, vo + j, none⟩) hvlt]
        exact hcell
      clear b1 c2 hcell HR
      go_wp2_with fail
      refine (c3 _).mono ?_
      rintro e w2 ⟨rfl, b2⟩
      have HR2 : Hid (RecB w2 wS.heap.size 25 (recR a) ∧ Below wS.heap.size wS w2) := ⟨HR1.out.1.below b2, HR1.out.2.trans (b2.mono HR1.out.2.size)⟩
      clear b2 c3 hcell1 HR1
      obtain ⟨w3, hw3⟩ : ∃ w3, w3 = w2.alloc (.cells (recA r) 25) := ⟨_, rfl⟩
      have hba : Below w2.heap.size w2 w3 := by rw [hw3]; exact (Below.refl _ _).alloc (Nat.le_refl _) _
      have HR3 : Hid (RecB w3 wS.heap.size 25 (recR a) ∧ Below wS.heap.size wS w3) := ⟨HR2.out.1.below hba, HR2.out.2.trans (hba.mono HR2.out.2.size)⟩
      have Q3 : RecB w3 w2.heap.size 25 r := by rw [hw3]; exact RecB.new w2 _ r
      have hs3 : w3.heap.size = w2.heap.size + 1 := by rw [hw3]; simp
      have hg2 := HR2.out.1.lt
      have hwb := HR2.out.2.size
      clear HR2 hba
      unfold RV
      cases b with
      | false =>
        have HE := HNo.out rfl
        unfold recA at hw3 ⊢
        go_wp2
        rw [← hw3]
        go_roundw
        case rel => exact ⟨j + 1, n + f.length, a, by go_num, by omega, by go_num, by omega, rfl, rfl, HN.out.symm, HE.symm, HR3.out.1, HR3.out.2⟩
        case measure => simp [intOf]; omega
      | true =>
        have HE := HY.out rfl
        have e1 : recR (some (r, n + f.length)) = r := rfl
        have hne : wS.heap.size ≠ w2.heap.size := by omega
        unfold recA at hw3 ⊢
        go_wp2_with (first | (refine wpList_getR rfl _ rfl w2.heap.size rfl r (by rw [← hw3]; exact Q3) ?_; unfold RV recA) | (refine wpList_putR rfl _ _ rfl wS.heap.size r (recR a) rfl rfl (by rw [← hw3]; exact HR3.out.1) ?_; rw [← hw3]; intro w4 R4 G4))
        have HB4 : Hid (Below wS.heap.size wS w4) := HR3.out.2.grown G4 (by omega) (fun k e => by cases e; exact Nat.le_refl _)
        go_roundw
        case rel => exact ⟨j + 1, n + f.length, some (r, n + f.length), by go_num, by omega, by go_num, by omega, by simp [recAt], rfl, HN.out.symm, HE.symm, R4, HB4.out⟩
        case measure => simp [intOf]; omega
    · obtain rfl : j = xs.length := by omega
      have hae : a = recallB s := by rw [HR.out.2.1]; exact HAL.out
      have HLA : Hid (recAt (recallB s) ≤ s.length) := by have := HLE.out xs.length (Nat.le_refl _); rwa [HAL.out] at this
      rw [← hae] at HLA
      have hla : ((recAt a : Nat) : Int) ≤ s.length := by have := HLA.out; omega
      have R1 := HR.out.2.2.1
      have Z1 := RS.below HR.out.2.2.2
      have B1 := BS.trans (HR.out.2.2.2.mono BS.size)
      have hex := extract_cut s 0 (recAt a)
      have e0 : cutB s 0 (recAt a) = s.take (recAt a) := by simp [cutB]
      rw [e0] at hex
      obtain ⟨r, hr⟩ : ∃ r, r = recR a := ⟨_, rfl⟩
      obtain ⟨m, hm⟩ : ∃ m, m = recAt a := ⟨_, rfl⟩
      obtain ⟨b, hb⟩ : ∃ b, b = a.isSome := ⟨_, rfl⟩
      obtain ⟨t, ht⟩ : ∃ t, t = s.take (recAt a) := ⟨_, rfl⟩
      have HE : Hid (recR (recallB s) = r ∧ s.take (recAt (recallB s)) = t ∧ (recallB s).isSome = b) := by rw [← hae]; exact ⟨hr.symm, ht.symm, hb.symm⟩
      rw [← hr] at R1
      rw [← ht] at hex
      rw [← hm] at hex hla ⊢
      rw [← hb]
      have k0 : wr.cell? ⟨wS.heap.size, 0, none⟩ = some (.int .i64 r.e) := R1.cell 0 rfl
      have k1 : wr.cell? ⟨wS.heap.size, 1, none⟩ = some (.int .i64 r.s) := R1.cell 1 rfl
      have k2 : wr.cell? ⟨wS.heap.size, 2, none⟩ = some (.int .i64 r.t) := R1.cell 2 rfl
      have k3 : wr.cell? ⟨wS.heap.size, 3, none⟩ = some (.int .i64 r.n) := R1.cell 3 rfl
      have z0 : wr.cell? ⟨w.heap.size, 0, none⟩ = some (.int .i64 0) := Z1.cell 0 rfl
      have z1 : wr.cell? ⟨w.heap.size, 1, none⟩ = some (.int .i64 0) := Z1.cell 1 rfl
      have z2 : wr.cell? ⟨w.heap.size, 2, none⟩ = some (.int .i64 0) := Z1.cell 2 rfl
      have z3 : wr.cell? ⟨w.heap.size, 3, none⟩ = some (.int .i64 0) := Z1.cell 3 rfl
      have f0 := Z1.frozen 0
      have f1 := Z1.frozen 1
      have f2 := Z1.frozen 2
      have f3 := Z1.frozen 3
      clear HR HR0 HST HAL HLE HCL HPL hr hm hb ht e0 HLA hae
      have R4 := Z1.set4 r
      have B4 : Below w.heap.size w _ := below_drewN (below_set4 B1 (Nat.le_refl _) (.int .i64 r.e) (.int .i64 r.s) (.int .i64 r.t) (.int .i64 r.n)) 1
      clear Z1 B1 R1
      go_wp2
      go_region
      go_wp2
      refine bodyPost_ret (results_R3 rfl _ _ w.heap.size r _ _ rfl rfl rfl R4) rfl ?_
      rw [HE.out.1, HE.out.2.1, HE.out.2.2]
      exact ⟨rfl, B4⟩
end Go.Proofs.YtjdmbjeginnjiaaDoor
