/- Lists of bytes of the call's own, texts out of them. -/
import Derived.Test.YtlkkpolnllbljaaGreatDoorM6
import Derived.Test.YtlkkpolnllbljaaGreatDoorM8
import Derived.Laws.OwnMore
import Derived.OwnWalk
import Derived.Laws.IdiomStrings
import Derived.Deep.RegionHeld3
import Derived.Test.YtlkkpolnllbljaaGreatDoorCmOk
import Derived.BigRegion
import Derived.Test.YtlkkpolnllbljaaGreatDoorM22
import Derived.Test.YtlkkpolnllbljaaGreatDoorM11
import Derived.BigQuiet
namespace Go.Proofs.YtlkkpolnllbljaaGreatDoor
open Go.ChangeShapes Go.WideShapes Go.ChangeAt Go.RowKit

def U (b : UInt8) : Value := .int .u8 (byteI b)
def OwnU (w : World) (base : Nat) (v : Value) (l : Bs) : Prop := w.ownsRow base 5 1 v l.length (l.map U)
theorem Tryz.infoU : (Tryz.prog.info? 5).map (fun i => (i.zero, i.size, i.bytes)) = some (some (.int .u8 0), 1, 1) := by kernel_rfl
theorem OwnU.lt {w : World} {base : Nat} {v : Value} {xs : Bs} (h : OwnU w base v xs) : ∀ k, v.ownBlock = some k → base ≤ k ∧ k < w.heap.size := World.ownsRow.lt h
theorem OwnU.frame {w w' : World} {base : Nat} {v : Value} {xs : Bs} (h : OwnU w base v xs) (e : ∀ b ∈ v.ownBlock.toList, w'.heap[b]? = w.heap[b]?) : OwnU w' base v xs := by
  refine ⟨h.1, ?_⟩
  rcases h.2 with h' | ⟨g, cap, cur, rfl, hb, hg, r⟩
  · exact .inl h'
  · exact .inr ⟨g, cap, cur, rfl, hb, (e g (by simp [Value.ownBlock])).trans hg, r⟩
theorem OwnU.raise {w : World} {base base' : Nat} {v : Value} {xs : Bs} (h : OwnU w base v xs) (hb : ∀ k, v.ownBlock = some k → base' ≤ k) : OwnU w base' v xs := by
  refine ⟨h.1, ?_⟩
  rcases h.2 with h' | ⟨g, cap, cur, rfl, _, r⟩
  · exact .inl h'
  · exact .inr ⟨g, cap, cur, rfl, hb g rfl, r⟩
theorem mapU_one (l : Bs) (b : UInt8) : l.map U ++ [U b] = (l ++ [b]).map U := by simp
theorem litU1 (w : World) (b : UInt8) : ∀ j u, ([U b])[j]? = some u → (w.alloc (.cells #[U b] 5)).cell? ((⟨w.heap.size, 0, none⟩ : Addr).add j) = some u := by
  intro j u hj
  match j, hj with
  | 0, hj => simp at hj; subst hj; simp [Addr.add]
theorem OwnU.kept {w w' : World} {base : Nat} {v : Value} {row : Option Nat} {xs : Bs} (h : OwnU w base v xs) (hg : w.grownBy w' row) (hne : v.ownBlock = none ∨ v.ownBlock ≠ row) : OwnU w' base v xs :=
  World.ownsRow.kept h hg hne
theorem OwnU.notAt {w : World} {base c : Nat} {v : Value} {xs : Bs} (h : OwnU w base v xs) (hc : c < base) : v.ownBlock = none ∨ v.ownBlock ≠ some c := by
  by_cases e : v.ownBlock = none
  · exact .inl e
  · refine .inr fun e2 => ?_
    have := (h.lt c e2).1
    omega
theorem grown_ownU {o a b : World} {c : Nat} {row : Option Nat} (h : o.grownBy a (some c)) (g : a.grownBy b row) (hr : ∀ k, row = some k → o.heap.size ≤ k) : o.grownBy b (some c) :=
  ⟨g.os.trans h.os, g.tape.trans h.tape, g.output.trans h.output, Nat.le_trans h.size g.size, fun k hk hne => (g.block k (Nat.lt_of_lt_of_le hk h.size) (fun e => by have := hr k e.symm; omega)).trans (h.block k hk hne)⟩

/- Bytes as a string. -/
theorem run_str (w : World) (base : Nat) (v : Value) (l : Bs) (h : OwnU w base v l) (hv : v ≠ .slice none 0 0) : (convert 121 9 v).run Tryz.prog w = .ok (S l) w := by
  rcases h.2 with ⟨e, _⟩ | ⟨g, cap, cur, rfl, hb, hg, hnc, hcm, hcs, ht⟩
  · exact absurd e hv
  · refine run_convert_bytes_back (P := Tryz.prog) w 121 9 5 ⟨g, 0, none⟩ cap l Tryz.underlying121 Tryz.underlying5 Tryz.underlying9 (fun j hj => ?_)
    have := World.ownsRow.cellAt (w := w) h j (by omega)
    rw [show (⟨g, 0, none⟩ : Addr).add j = ⟨g, j, none⟩ by unfold Addr.add; split <;> simp_all, this]
    simp [hj, U, byteI]

/- Bytes in a block of the call's own, from its head on. -/
def Buf (w : World) (base g n cap : Nat) (l : Bs) : Prop :=
  base ≤ g ∧ g < w.heap.size ∧ n = l.length ∧ n ≤ cap ∧ cap ≤ maxLen ∧ ∀ j (h : j < l.length), w.cell? ⟨g, j, none⟩ = some (U l[j]) ∧ w.frozen? ⟨g, j, none⟩ = false
theorem Buf.kept {w w' : World} {base g n cap : Nat} {l : Bs} {row : Option Nat} (h : Buf w base g n cap l) (hg : w.grownBy w' row) (hne : some g ≠ row) : Buf w' base g n cap l := by
  obtain ⟨h1, h2, h3, h4, h5, h6⟩ := h
  have hb := hg.block g h2 hne
  exact ⟨h1, Nat.lt_of_lt_of_le h2 hg.size, h3, h4, h5, fun j hj => ⟨(World.cell?_of_block (a := ⟨g, j, none⟩) hb).trans (h6 j hj).1, (World.frozen?_of_block (a := ⟨g, j, none⟩) hb).trans (h6 j hj).2⟩⟩
theorem Buf.shrink {w : World} {base g n cap : Nat} {l : Bs} (h : Buf w base g n cap l) (k : Nat) (hk : k ≤ n) : Buf w base g k cap (l.take k) := by
  obtain ⟨h1, h2, h3, h4, h5, h6⟩ := h
  refine ⟨h1, h2, by simp; omega, by omega, h5, fun j hj => ?_⟩
  have hj' : j < k ∧ j < l.length := by simp at hj; omega
  have := h6 j hj'.2
  rw [List.getElem_take]
  exact this
theorem Buf.of_own {w : World} {base g n cap : Nat} {l : Bs} (h : OwnU w base (.slice (some ⟨g, 0, none⟩) n cap) l) : Buf w base g n cap l := by
  have hlt := h.lt g rfl
  rcases h.2 with ⟨e, _⟩ | ⟨g', cap', cur, e, hb, hg, hnc, hcm, hcs, ht⟩
  · cases e
  · cases e
    refine ⟨hlt.1, hlt.2, rfl, hnc, hcm, fun j hj => ⟨?_, World.ownsRow.frozenAt h j⟩⟩
    have := World.ownsRow.cellAt (w := w) h j (by omega)
    rw [this]
    simp [hj]
theorem Buf.str {w : World} {base g n cap : Nat} {l : Bs} (h : Buf w base g n cap l) : (convert 121 9 (.slice (some ⟨g, 0, none⟩) n cap)).run Tryz.prog w = .ok (S l) w := by
  obtain ⟨h1, h2, rfl, h4, h5, h6⟩ := h
  refine run_convert_bytes_back (P := Tryz.prog) w 121 9 5 ⟨g, 0, none⟩ cap l Tryz.underlying121 Tryz.underlying5 Tryz.underlying9 (fun j hj => ?_)
  rw [show (⟨g, 0, none⟩ : Addr).add j = ⟨g, j, none⟩ by unfold Addr.add; split <;> simp_all]
  exact (h6 j hj).1

theorem run_bytes (w : World) (s : Bs) (hs : s.length ≤ 1000000) : ∃ cap w1, (convert 9 121 (.string ⟨s.toArray⟩)).run Tryz.prog w = .ok (.slice (some ⟨w.heap.size, 0, none⟩) s.length cap) w1 ∧ Buf w1 w.heap.size w.heap.size s.length cap s ∧ w.grownBy w1 none := by
  have hr := run_bytes_of_string (P := Tryz.prog) w 9 121 5 ⟨s.toArray⟩ Tryz.underlying9 Tryz.underlying121 Tryz.underlying5
  have hsz : (⟨s.toArray⟩ : ByteArray).size = s.length := rfl
  rw [hsz] at hr
  refine ⟨_, _, hr, ?_, ⟨rfl, rfl, rfl, by simp, fun k hk _ => Below.heap_alloc w.drew _ k hk⟩⟩
  have hge := grownCap_ge w s.length 0 5
  have hcm := grownCap_le_maxLen w s.length 0 5 (by unfold maxLen; omega)
  generalize grownCap w s.length 0 5 = cap at hge hcm
  have hh : (w.drew.alloc (.cells (bytesRow ⟨s.toArray⟩ cap) 5 ((bytesRow ⟨s.toArray⟩ cap).size, (bytesRow ⟨s.toArray⟩ cap).size + 1))).heap[w.heap.size]? = some (.cells (bytesRow ⟨s.toArray⟩ cap) 5 ((bytesRow ⟨s.toArray⟩ cap).size, (bytesRow ⟨s.toArray⟩ cap).size + 1)) := heap_alloc_new w.drew _
  have hrs : s.length ≤ (bytesRow ⟨s.toArray⟩ cap).size := by simp [bytesRow, ByteArray.size]
  refine ⟨Nat.le_refl _, by simp, rfl, hge, hcm, fun j hj => ⟨?_, ?_⟩⟩
  · rw [cell_of_row _ w.heap.size j _ _ _ hh]
    unfold bytesRow
    rw [Array.getElem?_append_left (by simpa using hj)]
    simp [hj, U, byteI]
  · have h1 : ¬ (bytesRow ⟨s.toArray⟩ cap).size ≤ j := by omega
    simp only [World.frozen?, hh]
    simp [h1]
theorem OwnU.alloc {w : World} {base : Nat} {v : Value} {l : Bs} (h : OwnU w base v l) (o : Obj) : OwnU (w.alloc o) base v l := World.ownsRow.alloc h o
end Go.Proofs.YtlkkpolnllbljaaGreatDoor
/- What the model shows and reads of a command: l6Sum, l6Show, ShowCmd, ReadCmd. -/
namespace Go.Proofs.YtlkkpolnllbljaaGreatDoor
open Go.ChangeShapes Go.WideShapes Go.ChangeAt Go.RowKit

set_option maxRecDepth 20000 in
set_option maxHeartbeats 1000000 in
theorem ssum_any (g n cap : Nat) (l : Bs) (w : World) (hl : 7 ≤ l.length) (hn : 7 ≤ n) (hc : ∀ j, j < 7 → w.cell? ⟨g, j, none⟩ = some (U (l.getD j 0))) :
    Calls Tryz.prog 96 #[.slice (some ⟨g, 0, none⟩) n cap] w fun e w' => e = .returned (.int .u8 (sumI (l.take 7))) ∧ w' = w := by
  have HC : Hid (∀ j, j < 7 → w.cell? ⟨g, j, none⟩ = some (U (l.getD j 0))) := hc
  clear hc
  go_enter Tryz.func96, Tryz.ntmps96
  go_wp2
  go_loop [3, 4] (fun s i => ∃ (j : Nat) (x : Int), (j : Int) ≤ 7 ∧ i = .int .i64 j ∧ s = .int .i64 x ∧ 0 ≤ x ∧ x ≤ 2000 ∧ Hid (x = sumN l j)) (fun _ i => 7 - (intOf i).toNat)
  case atStart => exact ⟨0, 0, by omega, rfl, rfl, by omega, by omega, rfl⟩
  case round =>
    obtain ⟨j, x, hj, rfl, rfl, hx0, hx1, HX⟩ := hrel
    by_cases hlt : (j : Int) < 7
    · have hcell := HC.out j (by omega)
      have hbd := byteI_bd (l.getD j 0)
      have HS : Hid (sumN l (j + 1) = x + byteI (l.getD j 0)) := by rw [Hid, sumN_step l j (by omega), ← HX.out]
      have hs2 := sumN_bd l (j + 1)
      rw [HS.out] at hs2
      unfold U at hcell
      obtain ⟨y, hy⟩ : ∃ y, y = byteI (l.getD j 0) := ⟨_, rfl⟩
      rw [← hy] at hcell hbd HS hs2
      clear hy
      go_wp2
      go_round
      case rel => exact ⟨j + 1, x + y, by omega, by go_num, by go_num, by omega, by omega, HS.out.symm⟩
      case measure => simp [intOf]; omega
    · have HE : Hid (sumI (l.take 7) = 255 - x % 256) := by
        obtain rfl : j = 7 := by omega
        rw [Hid, HX.out]; rfl
      have hm : x.tmod 256 = x % 256 := Int.tmod_eq_emod_of_nonneg hx0
      go_wp2
      go_ret
      rw [HE.out]
      exact ⟨rfl, rfl⟩

theorem divs (x : Int) (h0 : 0 ≤ x) : x.tdiv 256 = x / 256 ∧ x.tmod 256 = x % 256 := ⟨Int.tdiv_eq_ediv_of_nonneg h0, Int.tmod_eq_emod_of_nonneg h0⟩

set_option maxRecDepth 20000 in
set_option maxHeartbeats 4000000 in
theorem sreadC_any (s : Bs) (w : World) (hl : s.length ≤ 1048576) :
    Calls Tryz.prog 56 #[S s] w fun e w' => e = .returned (.tuple #[CV (readC s), .int .i64 (codeC s)]) ∧ Below w.heap.size w w' := by
  have hsz : (⟨s.toArray⟩ : ByteArray).size = s.length := rfl
  obtain ⟨w2, hw2⟩ : ∃ w2, w2 = (w.alloc (.cells (cmA Cm.zero) 66)).alloc (.cells (cmA Cm.zero) 66) := ⟨_, rfl⟩
  have Z2 : CmB w2 w.heap.size 66 Cm.zero := by rw [hw2]; exact (CmB.new w _ _).alloc _
  have N2 : CmB w2 (w.heap.size + 1) 66 Cm.zero := by rw [hw2]; have := CmB.new (w.alloc (.cells (cmA Cm.zero) 66)) 66 Cm.zero; rwa [World.size_alloc] at this
  have B2 : Below w.heap.size w w2 := by rw [hw2]; exact ((Below.refl _ _).alloc (Nat.le_refl _) _).alloc (by simp) _
  unfold cmA Cm.zero at hw2
  dsimp only at hw2
  unfold S
  by_cases h8 : (s.length : Int) < 8
  · have HE : Hid (codeC s = 1 ∧ readC s = Cm.zero) := code_short (by omega)
    go_enter Tryz.func56, Tryz.ntmps56
    go_wp2
    rw [← hw2]
    refine bodyPost_ret (results_C2 rfl _ _ w.heap.size _ _ rfl rfl Z2) rfl ?_
    rw [HE.out.1, HE.out.2]
    exact ⟨rfl, B2⟩
  · by_cases h9 : 8 < (s.length : Int)
    · have HE : Hid (codeC s = 2 ∧ readC s = Cm.zero) := code_long (by omega)
      go_enter Tryz.func56, Tryz.ntmps56
      go_wp2
      rw [← hw2]
      refine bodyPost_ret (results_C2 rfl _ _ w.heap.size _ _ rfl rfl Z2) rfl ?_
      rw [HE.out.1, HE.out.2]
      exact ⟨rfl, B2⟩
    · have hl8 : s.length = 8 := by omega
      obtain ⟨cap, w3, hr, hbuf, hg3⟩ := run_bytes w2 s (by omega)
      have hb8 : ∀ j, j < 8 → w3.cell? ⟨w2.heap.size, j, none⟩ = some (.int .u8 (byteI (s.getD j 0))) := fun j hj => by
        have h := (hbuf.2.2.2.2.2 j (by omega)).1
        rw [h]
        simp [U, show j < s.length by omega]
      have hcap : 8 ≤ cap := by have := hbuf.2.2.2.1; omega
      have hgl : w2.heap.size < w3.heap.size := hbuf.2.1
      have Z3 := Z2.kept hg3 (by simp)
      have N3 := N2.kept hg3 (by simp)
      have B3 : Below w.heap.size w w3 := B2.grown hg3 B2.size (fun k e => by cases e)
      have hr' : (convert 9 121 (.string ⟨s.toArray⟩)).run Tryz.prog ((w.alloc (.cells #[.int .i64 0, .int .i64 0, .int .i64 0, .int .i64 0, .int .i64 0] 66)).alloc (.cells #[.int .i64 0, .int .i64 0, .int .i64 0, .int .i64 0, .int .i64 0] 66)) = .ok (.slice (some ⟨w2.heap.size, 0, none⟩) 8 cap) w3 := by rw [← hw2, hr, hl8]
      have H1 : Hid (byteI (s.getD 7 0) ≠ sumI (s.take 7) → codeC s = 3 ∧ readC s = Cm.zero) := code_sum hl8
      have H2 : Hid (byteI (s.getD 7 0) = sumI (s.take 7) → inI (cmOf s).o 1 12 = false → codeC s = 4 ∧ readC s = Cm.zero) := code_op hl8
      have H3 : Hid (byteI (s.getD 7 0) = sumI (s.take 7) → inI (cmOf s).o 1 12 = true → (cmOf s).ok = false → codeC s = 5 ∧ readC s = Cm.zero) := code_field hl8
      have H4 : Hid (byteI (s.getD 7 0) = sumI (s.take 7) → (cmOf s).ok = true → codeC s = 0 ∧ readC s = cmOf s) := code_ok hl8
      have cs := fun wx hc => ssum_any w2.heap.size 8 cap s wx (by omega) (by omega) hc
      have hsb := sumI_bd (s.take 7)
      have hcm : cmOf s = ⟨byteI (s.getD 0 0), byteI (s.getD 1 0), byteI (s.getD 2 0) * 256 + byteI (s.getD 3 0), byteI (s.getD 4 0) * 256 + byteI (s.getD 5 0), byteI (s.getD 6 0)⟩ := rfl
      have hw3b := hgl
      have HB : Hid (∀ j, j < 8 → w3.cell? ⟨w2.heap.size, j, none⟩ = some (.int .u8 (byteI (s.getD j 0)))) := hb8
      have k0 := hb8 0 (by omega)
      have d0 := byteI_bd (s.getD 0 0)
      have k1 := hb8 1 (by omega)
      have d1 := byteI_bd (s.getD 1 0)
      have k2 := hb8 2 (by omega)
      have d2 := byteI_bd (s.getD 2 0)
      have k3 := hb8 3 (by omega)
      have d3 := byteI_bd (s.getD 3 0)
      have k4 := hb8 4 (by omega)
      have d4 := byteI_bd (s.getD 4 0)
      have k5 := hb8 5 (by omega)
      have d5 := byteI_bd (s.getD 5 0)
      have k6 := hb8 6 (by omega)
      have d6 := byteI_bd (s.getD 6 0)
      have k7 := hb8 7 (by omega)
      have d7 := byteI_bd (s.getD 7 0)
      obtain ⟨x0, hx0⟩ : ∃ x, x = byteI (s.getD 0 0) := ⟨_, rfl⟩
      rw [← hx0] at k0 d0 hcm
      obtain ⟨x1, hx1⟩ : ∃ x, x = byteI (s.getD 1 0) := ⟨_, rfl⟩
      rw [← hx1] at k1 d1 hcm
      obtain ⟨x2, hx2⟩ : ∃ x, x = byteI (s.getD 2 0) := ⟨_, rfl⟩
      rw [← hx2] at k2 d2 hcm
      obtain ⟨x3, hx3⟩ : ∃ x, x = byteI (s.getD 3 0) := ⟨_, rfl⟩
      rw [← hx3] at k3 d3 hcm
      obtain ⟨x4, hx4⟩ : ∃ x, x = byteI (s.getD 4 0) := ⟨_, rfl⟩
      rw [← hx4] at k4 d4 hcm
      obtain ⟨x5, hx5⟩ : ∃ x, x = byteI (s.getD 5 0) := ⟨_, rfl⟩
      rw [← hx5] at k5 d5 hcm
      obtain ⟨x6, hx6⟩ : ∃ x, x = byteI (s.getD 6 0) := ⟨_, rfl⟩
      rw [← hx6] at k6 d6 hcm
      obtain ⟨x7, hx7⟩ : ∃ x, x = byteI (s.getD 7 0) := ⟨_, rfl⟩
      rw [← hx7] at k7 d7
      rw [← hx7] at H1 H2 H3 H4
      obtain ⟨z, hz⟩ : ∃ z, z = sumI (s.take 7) := ⟨_, rfl⟩
      rw [← hz] at hsb H1 H2 H3 H4
      simp only [← hz] at cs
      obtain ⟨c, hc⟩ : ∃ c, c = cmOf s := ⟨_, rfl⟩
      rw [← hc] at hcm H2 H3 H4
      have HCM : Hid (c = ⟨x0, x1, x2 * 256 + x3, x4 * 256 + x5, x6⟩) := hcm
      have hne : w2.heap.size ≠ w3.heap.size := by omega
      have hs2 : w.heap.size + 1 < w3.heap.size := N3.lt
      clear hx0 hx1 hx2 hx3 hx4 hx5 hx6 hx7 hz hc hb8 hr hbuf hg3 hw2 Z2 N2 B2 hcm
      go_enter Tryz.func56, Tryz.ntmps56
      go_wp2
      go_region_held3 (fun w' => w'.cell? ⟨w2.heap.size, 0, none⟩ = some (.int .u8 x0) ∧ w'.cell? ⟨w2.heap.size, 1, none⟩ = some (.int .u8 x1) ∧ w'.cell? ⟨w2.heap.size, 2, none⟩ = some (.int .u8 x2) ∧ w'.cell? ⟨w2.heap.size, 3, none⟩ = some (.int .u8 x3) ∧ w'.cell? ⟨w2.heap.size, 4, none⟩ = some (.int .u8 x4) ∧ w'.cell? ⟨w2.heap.size, 5, none⟩ = some (.int .u8 x5) ∧ w'.cell? ⟨w2.heap.size, 6, none⟩ = some (.int .u8 x6)) (go_keep) (fail)
      have q0 : IntKind.i64.wrap x0 = x0 := by rw [IntKind.wrap_i64]; omega
      have q1 : IntKind.i64.wrap x1 = x1 := by rw [IntKind.wrap_i64]; omega
      have q2 : IntKind.i64.wrap x2 = x2 := by rw [IntKind.wrap_i64]; omega
      have q3 : IntKind.i64.wrap x3 = x3 := by rw [IntKind.wrap_i64]; omega
      have q4 : IntKind.i64.wrap x4 = x4 := by rw [IntKind.wrap_i64]; omega
      have q5 : IntKind.i64.wrap x5 = x5 := by rw [IntKind.wrap_i64]; omega
      have q6 : IntKind.i64.wrap x6 = x6 := by rw [IntKind.wrap_i64]; omega
      have r2 : IntKind.i64.wrap (x2 * 256) = x2 * 256 := by rw [IntKind.wrap_i64]; omega
      have s2 : IntKind.i64.wrap (x2 * 256 + x3) = x2 * 256 + x3 := by rw [IntKind.wrap_i64]; omega
      have r4 : IntKind.i64.wrap (x4 * 256) = x4 * 256 := by rw [IntKind.wrap_i64]; omega
      have s4 : IntKind.i64.wrap (x4 * 256 + x5) = x4 * 256 + x5 := by rw [IntKind.wrap_i64]; omega
      simp only [q0, q1, q2, q3, q4, q5, q6, r2, s2, r4, s4]
      clear q0 q1 q2 q3 q4 q5 q6 r2 s2 r4 s4
      obtain ⟨w4, hw4⟩ : ∃ w4, w4 = (w3.alloc (.cells (cmA c) 66)).drew := ⟨_, rfl⟩
      have Z4 : CmB w4 w.heap.size 66 Cm.zero := by rw [hw4]; exact Z3.alloc _
      have N4 : CmB w4 (w.heap.size + 1) 66 Cm.zero := by rw [hw4]; exact N3.alloc _
      have M4 : CmB w4 w3.heap.size 66 c := by rw [hw4]; exact CmB.new w3 _ c
      have B4 : Below w.heap.size w w4 := by rw [hw4]; exact below_drewN (B3.alloc B3.size _) 1
      have hb4 : ∀ j, j < 8 → w4.cell? ⟨w2.heap.size, j, none⟩ = some (U (s.getD j 0)) := fun j hj => by
        have hba : Below w3.heap.size w3 w4 := by rw [hw4]; exact below_drewN ((Below.refl _ _).alloc (Nat.le_refl _) _) 1
        rw [hba.cell (p := ⟨w2.heap.size, j, none⟩) hgl]
        exact HB.out j hj
      have k7' : w4.cell? ⟨w2.heap.size, 7, none⟩ = some (.int .u8 x7) := by
        have hba : Below w3.heap.size w3 w4 := by rw [hw4]; exact below_drewN ((Below.refl _ _).alloc (Nat.le_refl _) _) 1
        rw [hba.cell (p := ⟨w2.heap.size, 7, none⟩) hgl]
        exact k7
      have c1 := cs w4.drew (fun j hj => hb4 j (by omega))
      rw [show cmA c = #[.int .i64 x0, .int .i64 x1, .int .i64 (x2 * 256 + x3), .int .i64 (x4 * 256 + x5), .int .i64 x6] by rw [HCM.out]; rfl] at hw4
      rw [← hw4]
      have hs4 : w3.heap.size < w4.heap.size := M4.lt
      clear hw4 k0 k1 k2 k3 k4 k5 k6 k7 cs Z3 N3 B3 hb4 HB
      go_wp2
      go_region_held3 (fun w' => w'.cell? ⟨w2.heap.size, 7, none⟩ = some (.int .u8 x7)) (go_keep)
        (first
        | (go_at_call 96; refine c1.mono ?_; rintro e w' ⟨rfl, hw'⟩; subst w'))
      have Z5 : CmB w4.drew w.heap.size 66 Cm.zero := Z4
      have N5 : CmB w4.drew (w.heap.size + 1) 66 Cm.zero := N4
      have M5 : CmB w4.drew w3.heap.size 66 c := M4
      have B5 : Below w.heap.size w w4.drew := below_drewN B4 1
      obtain ⟨w5, hw5⟩ : ∃ w5, w5 = w4.drew := ⟨_, rfl⟩
      rw [← hw5] at Z5 N5 M5 B5 ⊢
      have hs5 : w3.heap.size < w5.heap.size := M5.lt
      have hsz5 : w.heap.size < w5.heap.size := Z5.lt
      clear hw5 Z4 N4 M4 B4 c1 k7' hs4
      by_cases h7 : x7 = z
      · subst h7
        have c2 := fun wx => sin6_any c.o 1 12 wx
        have c3 := fun wx => scmdok_any c wx
        have kc : w5.cell? ⟨w3.heap.size, 0, none⟩ = some (.int .i64 c.o) := M5.cell 0 rfl
        have H2' := H2.out rfl
        have H3' := H3.out rfl
        have H4' := H4.out rfl
        have HA : Hid (inI c.o 1 12 = false → codeC s = 4 ∧ readC s = Cm.zero) := H2'
        have HB : Hid (inI c.o 1 12 = true → c.ok = false → codeC s = 5 ∧ readC s = Cm.zero) := H3'
        have HD : Hid (c.ok = true → codeC s = 0 ∧ readC s = c) := H4'
        clear H1 H2 H3 H4 H2' H3' H4'
        obtain ⟨b1, hb1⟩ : ∃ b1, b1 = inI c.o 1 12 := ⟨_, rfl⟩
        obtain ⟨b2, hb2⟩ : ∃ b2, b2 = c.ok := ⟨_, rfl⟩
        rw [← hb1] at HA HB
        rw [← hb2] at HB HD
        simp only [← hb1] at c2
        simp only [← hb2] at c3
        clear hb1 hb2 HCM
        go_wp2_with fail
        refine (c2 _).mono ?_
        rintro e w' ⟨rfl, hw'⟩; subst w'
        clear c2
        cases b1 with
        | false =>
          have HE := HA.out rfl
          go_wp2_with (first | (refine wpList_getC rfl _ rfl (w.heap.size + 1) rfl Cm.zero N5 ?_) | (refine wpList_putC rfl _ _ rfl w.heap.size Cm.zero Cm.zero rfl rfl Z5 ?_; intro w6 R6 G6))
          refine bodyPost_ret (results_C2 rfl _ _ w.heap.size _ _ rfl rfl R6) rfl ?_
          rw [HE.1, HE.2]
          exact ⟨rfl, B5.grown G6 (by omega) (fun k e => by cases e; exact Nat.le_refl _)⟩
        | true =>
          have HB2 : Hid (b2 = false → codeC s = 5 ∧ readC s = Cm.zero) := HB.out rfl
          clear HB
          unfold CV at c3
          go_wp2_with (refine wpList_getC rfl _ rfl w3.heap.size rfl c M5 ?_; unfold CV)
          refine (c3 _).mono ?_
          rintro e w6 ⟨rfl, b6⟩
          have Z6 := Z5.below b6
          have N6 := N5.below b6
          have M6 := M5.below b6
          have B6 := B5.trans (b6.mono B5.size)
          have hs6 := Z6.lt
          clear c3 b6 Z5 N5 M5 B5 kc
          cases b2 with
          | false =>
            have HE := HB2.out rfl
            go_wp2_with (first | (refine wpList_getC rfl _ rfl (w.heap.size + 1) rfl Cm.zero N6 ?_) | (refine wpList_putC rfl _ _ rfl w.heap.size Cm.zero Cm.zero rfl rfl Z6 ?_; intro w7 R7 G7))
            refine bodyPost_ret (results_C2 rfl _ _ w.heap.size _ _ rfl rfl R7) rfl ?_
            rw [HE.1, HE.2]
            exact ⟨rfl, B6.grown G7 (by omega) (fun k e => by cases e; exact Nat.le_refl _)⟩
          | true =>
            have HE := HD.out rfl
            go_wp2_with (first | (refine wpList_getC rfl _ rfl w3.heap.size rfl c M6 ?_) | (refine wpList_putC rfl _ _ rfl w.heap.size c Cm.zero rfl rfl Z6 ?_; intro w7 R7 G7))
            refine bodyPost_ret (results_C2 rfl _ _ w.heap.size _ _ rfl rfl R7) rfl ?_
            rw [HE.1, HE.2]
            exact ⟨rfl, B6.grown G7 (by omega) (fun k e => by cases e; exact Nat.le_refl _)⟩
      · have HE := H1.out h7
        have hne7 : (x7 != z) = true := by simpa using h7
        clear H1 H2 H3 H4
        go_wp2_with (first | (refine wpList_getC rfl _ rfl (w.heap.size + 1) rfl Cm.zero N5 ?_) | (refine wpList_putC rfl _ _ rfl w.heap.size Cm.zero Cm.zero rfl rfl Z5 ?_; intro w6 R6 G6))
        refine bodyPost_ret (results_C2 rfl _ _ w.heap.size _ _ rfl rfl R6) rfl ?_
        rw [HE.1, HE.2]
        exact ⟨rfl, B5.grown G6 (by omega) (fun k e => by cases e; exact Nat.le_refl _)⟩
end Go.Proofs.YtlkkpolnllbljaaGreatDoor
/- What the laws say of commands, as plain numbers. -/
namespace Go.Proofs.YtlkkpolnllbljaaGreatDoor
open Go.ChangeShapes Go.WideShapes Go.ChangeAt Go.RowKit

theorem codeC_cases (l : Bs) : (l.length < 8 ∧ codeC l = 1 ∧ readC l = Cm.zero) ∨ (8 < l.length ∧ codeC l = 2 ∧ readC l = Cm.zero) ∨ (l.length = 8 ∧ codeC l = 0 ∧ showCS (readC l) = l) ∨ (l.length = 8 ∧ 3 ≤ codeC l ∧ codeC l ≤ 5 ∧ readC l = Cm.zero) := by
  by_cases h1 : l.length < 8
  · exact .inl ⟨h1, code_short h1⟩
  · by_cases h2 : 8 < l.length
    · exact .inr (.inl ⟨h2, code_long h2⟩)
    · have h8 : l.length = 8 := by omega
      by_cases h0 : codeC l = 0
      · refine .inr (.inr (.inl ⟨h8, h0, ?_⟩))
        obtain ⟨a, b⟩ := showC_read h0
        unfold showCS
        rw [if_pos a, b]
      · refine .inr (.inr (.inr ⟨h8, ?_, ?_, readC_not h0⟩))
        all_goals
          unfold codeC at h0 ⊢
          rw [if_neg h1, if_neg h2] at h0 ⊢
          split
          · omega
          · split
            · omega
            · split
              · omega
              · simp_all
end Go.Proofs.YtlkkpolnllbljaaGreatDoor
/- The model's l9Preempt. -/
namespace Go.Proofs.YtlkkpolnllbljaaGreatDoor
open Go.ChangeShapes Go.WideShapes Go.ChangeAt Go.RowKit

set_option maxRecDepth 20000 in
set_option maxHeartbeats 4000000 in
theorem s9preempt_any (base g : Nat) (h : Hd) (i key k : Int) (w : World) (d : PB w base g h) (i0 : 0 ≤ i) (i1 : i < 4) (t0 : 0 ≤ h.tu) (t1 : h.tu ≤ 1000000000) (hm : h.kd ≠ 0 → allI h.kd = false → 0 ≤ h.ho ∧ h.ho ≤ 3) :
    Calls Tryz.prog 138 #[.pointer (some ⟨g, 0, none⟩), .int .i64 i, .int .i64 key, .int .i64 k] w fun e w' => e = .returned (.bool (h.pred i key k).2) ∧ PB w' base g (h.pred i key k).1 ∧ Below base w w' := by
  obtain ⟨q, cap, d⟩ := d
  have HP : Hid (PQ w base g q cap h) := d
  have k0 : w.cell? ⟨g, 0, none⟩ = some (.slice (some ⟨q, 0, none⟩) 4 cap) := d.1.cell 0 rfl
  have k1 : w.cell? ⟨g, 1, none⟩ = some (.int .i64 h.kd) := d.1.cell 1 rfl
  have k2 : w.cell? ⟨g, 2, none⟩ = some (.int .i64 h.ho) := d.1.cell 2 rfl
  have k3 : w.cell? ⟨g, 3, none⟩ = some (.int .i64 h.tu) := d.1.cell 3 rfl
  have cr := s8reg_any _ h i w d.2.1.reads i0 (by have := d.2.2.2.2.2; omega)
  unfold HV hdA at cr
  obtain ⟨r, HE⟩ : ∃ r, Hid (r = h.pred i key k) := ⟨_, rfl⟩
  rw [← HE.out]
  have HM : Hid (h.kd ≠ 0 → allI h.kd = false → 0 ≤ h.ho ∧ h.ho ≤ 3) := hm
  clear d hm
  go_enter Tryz.func138, Tryz.ntmps138
  go_wp2
  go_loopw [9, 10] (fun f n wr => ∃ j : Nat, (j : Int) ≤ 4 ∧ n = .int .i64 j ∧ f = .bool (has h.ks key j) ∧ wr = w) (fun _ n _ => 4 - (intOf n).toNat)
  case atStart => exact ⟨0, by omega, rfl, rfl, rfl⟩
  case round =>
    obtain ⟨j, hj, rfl, rfl, hw⟩ := hrel
    subst wr
    by_cases hlt : (j : Int) < 4
    · have kj := (HP.out.key j (by omega) 0).2.1
      have HH : Hid (has h.ks key (j + 1) = (has h.ks key j || decide (h.ks.getD j 0 = key))) := rfl
      obtain ⟨y, hy⟩ : ∃ y, y = h.ks.getD j 0 := ⟨_, rfl⟩
      obtain ⟨b, hb⟩ : ∃ b, b = has h.ks key j := ⟨_, rfl⟩
      rw [← hy] at kj HH
      rw [← hb] at HH ⊢
      clear hy hb
      cases b with
      | true =>
        go_wp2
        go_roundw
        case rel => exact ⟨j + 1, by omega, by go_num, by rw [HH.out]; rfl, trivial⟩
        case measure => simp [intOf]; omega
      | false =>
        go_wp2
        go_roundw
        case rel => exact ⟨j + 1, by omega, by go_num, by rw [HH.out]; by_cases e : y = key <;> simp [e], trivial⟩
        case measure => simp [intOf]; omega
    · obtain rfl : j = 4 := by omega
      have HE2 : Hid (r = if (regI h.ks i && has h.ks key 4) = false then (h, false) else if (h.alone key || (allI h.kd && !more h.ks i.toNat key 4)) = true then ((Hd.turn ⟨strike h.ks i.toNat key 4, h.kd, h.ho, h.tu⟩).take i k, true) else (Hd.turn ⟨strike h.ks i.toNat key 4, h.kd, h.ho, h.tu⟩, true)) := HE.out
      clear HE
      obtain ⟨bh, hbh⟩ : ∃ bh, bh = has h.ks key 4 := ⟨_, rfl⟩
      obtain ⟨br, hbr⟩ : ∃ br, br = regI h.ks i := ⟨_, rfl⟩
      rw [← hbh, ← hbr] at HE2
      rw [← hbh]
      rw [← hbr] at cr
      clear hbh hbr
      go_wp2_with fail
      refine cr.mono ?_
      rintro e w2 ⟨rfl, b2⟩
      have HB : Hid (Below base w w2) := b2.mono HP.out.lt
      replace HP : Hid (PQ w2 base g q cap h) := HP.out.below b2
      clear b2 k0 k1 k2 k3 cr
      by_cases hrb : (br && bh) = false
      · have HR : Hid (r = (h, false)) := by rw [Hid, HE2.out, if_pos hrb]
        have HQ : Hid (PB w2 base g h ∧ Below base w w2) := ⟨⟨q, cap, HP.out⟩, HB.out⟩
        clear HE2 HP HB HM
        cases br with
        | false =>
          clear hrb
          go_wp2
          go_ret
          exact ⟨by rw [HR.out]; rfl, by rw [HR.out]; exact HQ.out.1, HQ.out.2⟩
        | true =>
          obtain rfl : bh = false := by simpa using hrb
          clear hrb
          go_wp2
          go_ret
          exact ⟨by rw [HR.out]; rfl, by rw [HR.out]; exact HQ.out.1, HQ.out.2⟩
      · have hrb2 : br = true ∧ bh = true := by simpa using hrb
        obtain ⟨rfl, rfl⟩ := hrb2
        have H3 : Hid (r = if (h.alone key || (allI h.kd && !more h.ks i.toNat key 4)) = true then ((Hd.turn ⟨strike h.ks i.toNat key 4, h.kd, h.ho, h.tu⟩).take i k, true) else (Hd.turn ⟨strike h.ks i.toNat key 4, h.kd, h.ho, h.tu⟩, true)) := by rw [Hid, HE2.out, if_neg (by decide)]
        clear hrb HE2
        have k0 : w2.cell? ⟨g, 0, none⟩ = some (.slice (some ⟨q, 0, none⟩) 4 cap) := HP.out.1.cell 0 rfl
        have k1 : w2.cell? ⟨g, 1, none⟩ = some (.int .i64 h.kd) := HP.out.1.cell 1 rfl
        have k2 : w2.cell? ⟨g, 2, none⟩ = some (.int .i64 h.ho) := HP.out.1.cell 2 rfl
        have cf := fun wx => sall_any h.kd wx
        go_upto_region 8 with fail
        go_cut [11] (fun t wx => t = .bool (h.alone key) ∧ Hid (∃ n, wx = w2.drewN n))
        case first =>
          by_cases hk : h.kd = 0
          · have ea : Hid (h.alone key = false) := by simp [Hid, Hd.alone, hk]
            rw [hk] at k1
            clear cf HM H3 HB
            go_quiet (fail)
            all_goals (go_wp2_with fail; go_meet; exact ⟨by rw [ea.out], ⟨_, rfl⟩⟩)
          · have hkb : (h.kd != 0) = true := by simpa using hk
            cases hf : allI h.kd with
            | true =>
              have ea : Hid (h.alone key = false) := by simp [Hid, Hd.alone, hf]
              simp only [hf] at cf
              clear HM H3 HB hf
              go_quiet ((go_at_call 86; exact Calls.quiet_of_same (cf _)))
              all_goals (go_wp2_with fail; go_meet; exact ⟨by rw [ea.out], ⟨_, rfl⟩⟩)
            | false =>
              have hb := HM.out hk hf
              have kq := (HP.out.key h.ho.toNat (by omega) 0).2.1
              have ea : Hid (h.alone key = decide (h.ks.getD h.ho.toNat 0 = key)) := by simp [Hid, Hd.alone, hk, hf]
              obtain ⟨y, hy⟩ : ∃ y, y = h.ks.getD h.ho.toNat 0 := ⟨_, rfl⟩
              rw [← hy] at kq ea
              simp only [hf] at cf
              obtain ⟨l1, l2⟩ := hb
              clear HM H3 HB hf hy
              go_quiet ((go_at_call 86; exact Calls.quiet_of_same (cf _)))
              all_goals (go_wp2_with fail; go_meet; exact ⟨by rw [ea.out]; by_cases e : y = key <;> simp [e], ⟨_, rfl⟩⟩)
        case rest =>
          obtain ⟨rfl, HN⟩ := hcut
          obtain ⟨n, hn⟩ := HN.out
          have H5 : Hid (PQ wc base g q cap ⟨strike h.ks i.toNat key 0, h.kd, h.ho, h.tu⟩ ∧ Below base w wc) := by
            rw [hn]
            exact ⟨HP.out.below (below_drewN (Below.refl _ _) n), below_drewN HB.out n⟩
          have HI : Hid (i.toNat < 4 ∧ (i.toNat : Int) = i) := ⟨by omega, by omega⟩
          have HT : Hid ((0 ≤ h.tu ∧ h.tu ≤ 1000000000) ∧ h.ks.length = 4) := ⟨⟨t0, t1⟩, HP.out.2.2.2.2.2⟩
          obtain ⟨ba, hba⟩ : ∃ ba, ba = h.alone key := ⟨_, rfl⟩
          rw [← hba] at H3 ⊢
          clear hn HN HP HB HM hba cf k0 k1 k2 t0 t1
          go_wp2_with fail
          go_loopw [12, 13] (fun m n wz => ∃ j : Nat, (j : Int) ≤ 4 ∧ n = .int .i64 j ∧ m = .bool (more h.ks i.toNat key j) ∧ Hid (PQ wz base g q cap ⟨strike h.ks i.toNat key j, h.kd, h.ho, h.tu⟩ ∧ Below base w wz)) (fun _ n _ => 4 - (intOf n).toNat)
          case atStart => exact ⟨0, by omega, rfl, rfl, H5⟩
          case round =>
            obtain ⟨j, hj, rfl, rfl, HR⟩ := hrel
            by_cases hlt : (j : Int) < 4
            · have HM1 : Hid (more h.ks i.toNat key (j + 1) = (more h.ks i.toNat key j || (decide (j ≠ i.toNat) && (decide (h.ks.getD j 0 ≠ key) && decide (h.ks.getD j 0 ≠ 0))))) := rfl
              have HS1 : Hid (strike h.ks i.toNat key (j + 1) = if j ≠ i.toNat ∧ h.ks.getD j 0 = key then (strike h.ks i.toNat key j).set j 0 else strike h.ks i.toNat key j) := rfl
              have HA : Hid ((strike h.ks i.toNat key j).getD j 0 = h.ks.getD j 0) := strike_at _ _ _ _ _ (Nat.le_refl _)
              obtain ⟨s1, hs1⟩ : ∃ s1, s1 = strike h.ks i.toNat key (j + 1) := ⟨_, rfl⟩
              obtain ⟨m1, hm1⟩ : ∃ m1, m1 = more h.ks i.toNat key (j + 1) := ⟨_, rfl⟩
              have HQ : Hid (s1 = strike h.ks i.toNat key (j + 1) ∧ m1 = more h.ks i.toNat key (j + 1)) := ⟨hs1, hm1⟩
              rw [← hs1] at HS1
              rw [← hm1] at HM1
              clear hs1 hm1
              obtain ⟨m0, hm0⟩ : ∃ m0, m0 = more h.ks i.toNat key j := ⟨_, rfl⟩
              rw [← hm0] at HM1 ⊢
              clear hm0
              by_cases hji : (j : Int) = i
              · have e1 : j = i.toNat := by omega
                have HS2 : Hid (s1 = strike h.ks i.toNat key j) := by rw [Hid, HS1.out, if_neg (by simp [e1])]
                have HM2 : Hid (m1 = m0) := by rw [Hid, HM1.out]; simp [e1]
                have hjb : ((j : Int) == i) = true := by simpa using hji
                clear HS1 HM1 HA hji e1
                go_wp2
                go_roundw
                case rel => exact ⟨j + 1, by omega, by go_num, by rw [← HQ.out.2, HM2.out], by rw [← HQ.out.1, HS2.out]; exact HR⟩
                case measure => simp [intOf]; omega
              · have e1 : j ≠ i.toNat := by omega
                have hjb : ((j : Int) == i) = false := by simpa using hji
                obtain ⟨ff, kj, PK⟩ := HR.out.1.key j (by omega) 0
                rw [HA.out] at kj
                have k0 : wr.cell? ⟨g, 0, none⟩ = some (.slice (some ⟨q, 0, none⟩) 4 cap) := HR.out.1.1.cell 0 rfl
                have hgq : g ≠ q := HR.out.1.2.2.1
                obtain ⟨y, hy⟩ : ∃ y, y = h.ks.getD j 0 := ⟨_, rfl⟩
                rw [← hy] at kj HS1 HM1
                clear hy HA
                by_cases hyk : y = key
                · have HS2 : Hid (s1 = (strike h.ks i.toNat key j).set j 0) := by rw [Hid, HS1.out, if_pos ⟨e1, hyk⟩]
                  have HM2 : Hid (m1 = m0) := by rw [Hid, HM1.out]; simp [hyk]
                  have HP2 : Hid (PQ (wr.setCell ⟨q, j, none⟩ (.int .i64 0)) base g q cap ⟨s1, h.kd, h.ho, h.tu⟩ ∧ Below base w (wr.setCell ⟨q, j, none⟩ (.int .i64 0))) := by
                    rw [HS2.out]; exact ⟨PK.1, HR.out.2.trans PK.2⟩
                  have l0 : (wr.setCell ⟨q, j, none⟩ (.int .i64 0)).cell? ⟨g, 0, none⟩ = some (.slice (some ⟨q, 0, none⟩) 4 cap) := PK.1.1.cell 0 rfl
                  have lj : (wr.setCell ⟨q, j, none⟩ (.int .i64 0)).cell? ⟨q, j, none⟩ = some (.int .i64 0) := World.cell?_setCell_same _ _ _ kj
                  have hykb : (y == key) = true := by simpa using hyk
                  clear HS1 HM1 HS2 HR PK hyk
                  cases m0 with
                  | true =>
                    go_wp2
                    go_roundw
                    case rel => exact ⟨j + 1, by omega, by go_num, by rw [← HQ.out.2, HM2.out], by rw [← HQ.out.1]; exact HP2⟩
                    case measure => simp [intOf]; omega
                  | false =>
                    go_wp2
                    go_roundw
                    case rel => exact ⟨j + 1, by omega, by go_num, by rw [← HQ.out.2, HM2.out], by rw [← HQ.out.1]; exact HP2⟩
                    case measure => simp [intOf]; omega
                · have HS2 : Hid (s1 = strike h.ks i.toNat key j) := by rw [Hid, HS1.out, if_neg (fun e => hyk e.2)]
                  have HM2 : Hid (m1 = (m0 || decide (y ≠ 0))) := by rw [Hid, HM1.out]; simp [hyk, e1]
                  have HP2 : Hid (PQ wr base g q cap ⟨s1, h.kd, h.ho, h.tu⟩ ∧ Below base w wr) := by
                    rw [HS2.out]; exact HR.out
                  have hykb : (y == key) = false := by simpa using hyk
                  clear HS1 HM1 HS2 HR PK hyk ff
                  cases m0 with
                  | true =>
                    go_wp2
                    go_roundw
                    case rel => exact ⟨j + 1, by omega, by go_num, by rw [← HQ.out.2, HM2.out]; rfl, by rw [← HQ.out.1]; exact HP2⟩
                    case measure => simp [intOf]; omega
                  | false =>
                    by_cases hy0 : y = 0
                    · have hyb : (y != 0) = false := by simp [hy0]
                      go_wp2
                      go_roundw
                      case rel => exact ⟨j + 1, by omega, by go_num, by rw [← HQ.out.2, HM2.out]; simp [hy0], by rw [← HQ.out.1]; exact HP2⟩
                      case measure => simp [intOf]; omega
                    · have hyb : (y != 0) = true := by simpa using hy0
                      go_wp2
                      go_roundw
                      case rel => exact ⟨j + 1, by omega, by go_num, by rw [← HQ.out.2, HM2.out]; simp [hy0], by rw [← HQ.out.1]; exact HP2⟩
                      case measure => simp [intOf]; omega
            · obtain rfl : j = 4 := by omega
              obtain ⟨h4, hh4⟩ : ∃ h4 : Hd, h4 = ⟨strike h.ks i.toNat key 4, h.kd, h.ho, h.tu⟩ := ⟨_, rfl⟩
              obtain ⟨m4, hm4⟩ : ∃ m4, m4 = more h.ks i.toNat key 4 := ⟨_, rfl⟩
              rw [← hh4, ← hm4] at H3
              rw [← hh4] at HR
              rw [← hm4]
              have HK : Hid (h4.kd = h.kd) := by rw [hh4]; rfl
              have t2 : 0 ≤ h4.tu ∧ h4.tu ≤ 1000000000 := by rw [hh4]; exact HT.out.1
              have ct := s9turn_any base g h4 wr ⟨q, cap, HR.out.1⟩ t2.1 t2.2
              have HB2 : Hid (Below base w wr) := HR.out.2
              clear HR hh4 hm4 t2 H5
              go_wp2_with fail
              refine ct.mono ?_
              rintro e w6 ⟨rfl, P6, B6⟩
              have HB6 : Hid (Below base w w6) := HB2.out.trans B6
              have HP6 : Hid (PB w6 base g h4.turn) := P6
              have k1 : w6.cell? ⟨g, 1, none⟩ = some (.int .i64 h4.kd) := by obtain ⟨q6, c6, d6⟩ := P6; exact d6.1.cell 1 rfl
              have cf := fun wx => sall_any h4.kd wx
              have HA4 : Hid (allI h.kd = allI h4.kd) := by rw [Hid, HK.out]
              rw [HA4.out] at H3
              obtain ⟨a4, ha4⟩ : ∃ a4, a4 = allI h4.kd := ⟨_, rfl⟩
              rw [← ha4] at H3
              simp only [← ha4] at cf
              clear P6 B6 ct HB2 ha4 HA4
              have take : ∀ wx, PB wx base g h4.turn → _ := fun wx d => s9take_any base g h4.turn i k wx d
              cases ba with
              | true =>
                have HR : Hid (r = ((h4.turn).take i k, true)) := by rw [Hid, H3.out]; rfl
                clear H3 cf k1
                go_wp2_with fail
                refine (take _ HP6.out).mono ?_
                rintro e w7 ⟨rfl, P7, B7⟩
                have HQ : Hid (PB w7 base g ((h4.turn).take i k) ∧ Below base w w7) := ⟨P7, HB6.out.trans B7⟩
                clear P7 B7 take
                go_wp2
                go_ret
                exact ⟨by rw [HR.out]; rfl, by rw [HR.out]; exact HQ.out.1, HQ.out.2⟩
              | false =>
                cases a4 with
                | false =>
                  have HR : Hid (r = (h4.turn, true)) := by rw [Hid, H3.out]; rfl
                  have HQ : Hid (PB w6 base g h4.turn ∧ Below base w w6) := ⟨HP6.out, HB6.out⟩
                  clear H3 take HB6 HP6
                  go_wp2_with (first | (go_at_call 86; refine (cf _).mono ?_; rintro e w' ⟨rfl, hw'⟩; subst w'))
                  go_ret
                  exact ⟨by rw [HR.out]; rfl, by rw [HR.out]; exact HQ.out.1, HQ.out.2⟩
                | true =>
                  cases m4 with
                  | true =>
                    have HR : Hid (r = (h4.turn, true)) := by rw [Hid, H3.out]; rfl
                    have HQ : Hid (PB w6 base g h4.turn ∧ Below base w w6) := ⟨HP6.out, HB6.out⟩
                    clear H3 take HB6 HP6
                    go_wp2_with (first | (go_at_call 86; refine (cf _).mono ?_; rintro e w' ⟨rfl, hw'⟩; subst w'))
                    go_ret
                    exact ⟨by rw [HR.out]; rfl, by rw [HR.out]; exact HQ.out.1, HQ.out.2⟩
                  | false =>
                    have HR : Hid (r = ((h4.turn).take i k, true)) := by rw [Hid, H3.out]; rfl
                    clear H3
                    go_wp2_with fail
                    refine (cf _).mono ?_
                    rintro e w' ⟨rfl, hw'⟩; subst w'
                    clear cf k1
                    go_wp2_with fail
                    refine (take _ HP6.out).mono ?_
                    rintro e w7 ⟨rfl, P7, B7⟩
                    have HQ : Hid (PB w7 base g ((h4.turn).take i k) ∧ Below base w w7) := ⟨P7, HB6.out.trans B7⟩
                    clear P7 B7 take
                    go_wp2
                    go_ret
                    exact ⟨by rw [HR.out]; rfl, by rw [HR.out]; exact HQ.out.1, HQ.out.2⟩
end Go.Proofs.YtlkkpolnllbljaaGreatDoor
