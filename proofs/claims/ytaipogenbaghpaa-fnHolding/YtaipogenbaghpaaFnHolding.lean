/- At every list of bytes the law FnHolding returns true: of what one holds alone just one is the holder, of what is for all each that is registered, and who holds may write; and the program answers as the model. -/
import Derived.Test.YtaipogenbaghpaaRows
import Derived.WalkKit
import Derived.ProofKit
import Derived.OpenShut
import Derived.ShutString
import Derived.ChangeOld
import Derived.Below
import Derived.Test.YtaipogenbaghpaaDrawSets
import Derived.Test.YtaipogenbaghpaaFHold
import Derived.Test.YtaipogenbaghpaaHoldLaws
import Derived.Test.YtaipogenbaghpaaIHold3
import Derived.Test.YtaipogenbaghpaaSHold2
namespace Go.Proofs.Ytaipogenbaghpaa.fnHolding
open Go.ChangeShapes Go.WideShapes Go.ChangeAt Go.RowKit
open Go.ChangeMaps (open_string shut_string)
set_option linter.unusedVariables false

theorem own : ownKnob Try.prog.godebug = none := by kernel_rfl
theorem laidOut : laidOutB Try.prog = true := by kernel_rfl

def IsRow (k : IntKind) (w : World) (a : Option Addr) (len cap : Nat) (zs : List Int) : Prop :=
  (a = none ∧ len = 0 ∧ cap = 0 ∧ zs = []) ∨
  ∃ x, a = some x ∧ len ≤ cap ∧ cap ≤ maxLen ∧ zs.length = cap ∧ (∀ i, i < zs.length → w.cell? (x.add i) = some (.int k (zs.getD i 0))) ∧ ∀ n ∈ zs, (Lit.int k n).wf = true

set_option maxRecDepth 20000 in
set_option maxHeartbeats 8000000 in
theorem walk (a0 : Option Addr) (len0 cap0 : Nat) (z0 : List Int) (w : World) (w0 : IsRow .u8 w a0 len0 cap0 z0) :
    Calls Try.prog 3 #[.slice a0 len0 cap0] w fun e w' => e = .returned (.bool true) ∧ Below w.heap.size w w' := by
  by_cases hbig : (4096 : Int) < (len0 : Int)
  · go_enter Try.func3, Try.ntmps3
    go_wp2_with (go_at_call 9; refine (big_any _ _ _ _).mono ?_; rintro e w' ⟨rfl, hw'⟩; subst w')
    go_ret
    exact ⟨rfl, Below.refl _ _⟩
  · have HC : Hid (CodeOk w w.heap.size (.slice a0 len0 cap0)) := codeOk_row w0 (by omega)
    clear w0
    go_enter Try.func3, Try.ntmps3
    go_wp2_with fail
    refine (big_any _ _ _ _).mono ?_
    rintro e w' ⟨rfl, hw'⟩; subst w'
    go_wp2_with fail
    refine (drawMay_any w.heap.size _ _ HC.out (Nat.le_refl _)).mono ?_
    rintro e w1 ⟨h, u, x, b, rfl, D1, B1⟩
    have hl4 := D1.2.2
    have hl : h.ks.length ≤ 1099511627776 := by omega
    obtain ⟨q, off, cap, m, rfl⟩ : ∃ q off cap m, u = .slice (some ⟨q, off, none⟩) m cap := by
      obtain ⟨-, ⟨q, off, cap, e2, -⟩, -⟩ := D1
      exact ⟨q, off, cap, _, e2⟩
    have HS : Hid (FH w (w1.alloc (.cells (hdA (.slice (some ⟨q, off, none⟩) m cap) h) 26)) w1.heap.size (.slice (some ⟨q, off, none⟩) m cap) h) := FH.start B1 D1.1
    clear D1 B1 HC hl4
    have cm := fun wx (hr : Reads wx (.slice (some ⟨q, off, none⟩) m cap) h.ks) => iMay_any (.slice (some ⟨q, off, none⟩) m cap) h x b wx hr hl
    have cms := fun wx (hr : Reads wx (.slice (some ⟨q, off, none⟩) m cap) h.ks) => sMay_any (.slice (some ⟨q, off, none⟩) m cap) h x b wx hr hl
    have co := fun wx (hr : Reads wx (.slice (some ⟨q, off, none⟩) m cap) h.ks) => iholdok_any (.slice (some ⟨q, off, none⟩) m cap) h wx hr hl
    have cos := fun wx (hr : Reads wx (.slice (some ⟨q, off, none⟩) m cap) h.ks) => sholdok_any (.slice (some ⟨q, off, none⟩) m cap) h wx hr hl
    have ch := fun wx (hr : Reads wx (.slice (some ⟨q, off, none⟩) m cap) h.ks) => iHol_any (.slice (some ⟨q, off, none⟩) m cap) h x wx hr hl
    have chs := fun wx (hr : Reads wx (.slice (some ⟨q, off, none⟩) m cap) h.ks) => sHol_any (.slice (some ⟨q, off, none⟩) m cap) h x wx hr hl
    have cr := fun wx (hr : Reads wx (.slice (some ⟨q, off, none⟩) m cap) h.ks) => iReg_any (.slice (some ⟨q, off, none⟩) m cap) h x wx hr hl
    have crs := fun wx (hr : Reads wx (.slice (some ⟨q, off, none⟩) m cap) h.ks) => sReg_any (.slice (some ⟨q, off, none⟩) m cap) h x wx hr hl
    have cmi := fun (i : Int) (y : Bool) wx (hr : Reads wx (.slice (some ⟨q, off, none⟩) m cap) h.ks) => iMay_any (.slice (some ⟨q, off, none⟩) m cap) h i y wx hr hl
    have chi := fun (i : Int) wx (hr : Reads wx (.slice (some ⟨q, off, none⟩) m cap) h.ks) => iHol_any (.slice (some ⟨q, off, none⟩) m cap) h i wx hr hl
    have cri := fun (i : Int) wx (hr : Reads wx (.slice (some ⟨q, off, none⟩) m cap) h.ks) => iReg_any (.slice (some ⟨q, off, none⟩) m cap) h i wx hr hl
    have N1 : Hid (h.ok = false → h.Reg x = false ∧ h.Hol x = false ∧ h.May x b = false) := fun e => Hd.not_ok e x b
    have N2 : Hid (∀ i, h.Hol i = true → h.Reg i = true ∧ h.May i true = true ∧ h.May i false = true) := fun i e => ⟨Hd.hol_reg i e, Hd.hol_may i true e, Hd.hol_may i false e⟩
    have N3 : Hid (h.ok = true → (h.kd = 0 → cnt h.Hol 4 = 0) ∧ (h.kd ≠ 0 → allI h.kd = true → cnt h.Hol 4 = cnt h.Reg 4 ∧ 0 < cnt h.Reg 4) ∧ (h.kd ≠ 0 → allI h.kd = false → cnt h.Hol 4 = 1)) := fun e => Hd.count e
    obtain ⟨vm, hvm⟩ : ∃ vm, vm = h.May x b := ⟨_, rfl⟩
    obtain ⟨vo, hvo⟩ : ∃ vo, vo = h.ok := ⟨_, rfl⟩
    obtain ⟨vh, hvh⟩ : ∃ vh, vh = h.Hol x := ⟨_, rfl⟩
    obtain ⟨vr, hvr⟩ : ∃ vr, vr = h.Reg x := ⟨_, rfl⟩
    simp only [← hvm] at cm cms
    simp only [← hvo] at co cos
    simp only [← hvh] at ch chs
    simp only [← hvr] at cr crs
    rw [← hvm, ← hvo, ← hvh, ← hvr] at N1
    rw [← hvo] at N3
    clear hvm hvo hvh hvr hl
    have em : (vm != vm) = false := by simp
    have eo : (vo != vo) = false := by simp
    have eh : (vh != vh) = false := by simp
    have er : (vr != vr) = false := by simp
    unfold HV hdA at *
    have q0 : (w1.alloc (.cells #[(.slice (some ⟨q, off, none⟩) m cap), .int .i64 h.kd, .int .i64 h.ho, .int .i64 h.tu] 26)).cell? ⟨w1.heap.size, 0, none⟩ = some (.slice (some ⟨q, off, none⟩) m cap) := HS.out.cell 0 rfl
    have q1 : (w1.alloc (.cells #[(.slice (some ⟨q, off, none⟩) m cap), .int .i64 h.kd, .int .i64 h.ho, .int .i64 h.tu] 26)).cell? ⟨w1.heap.size, 1, none⟩ = some (.int .i64 h.kd) := HS.out.cell 1 rfl
    have q2 : (w1.alloc (.cells #[(.slice (some ⟨q, off, none⟩) m cap), .int .i64 h.kd, .int .i64 h.ho, .int .i64 h.tu] 26)).cell? ⟨w1.heap.size, 2, none⟩ = some (.int .i64 h.ho) := HS.out.cell 2 rfl
    have q3 : (w1.alloc (.cells #[(.slice (some ⟨q, off, none⟩) m cap), .int .i64 h.kd, .int .i64 h.ho, .int .i64 h.tu] 26)).cell? ⟨w1.heap.size, 3, none⟩ = some (.int .i64 h.tu) := HS.out.cell 3 rfl
    go_wp2_with fail
    refine (cm _ HS.out.2.2).mono ?_
    rintro e v1 ⟨rfl, b1⟩
    replace HS : Hid (FH w v1 w1.heap.size (.slice (some ⟨q, off, none⟩) m cap) h) := HS.out.next b1
    clear b1
    clear q0 q1 q2 q3
    have q0 : v1.cell? ⟨w1.heap.size, 0, none⟩ = some (.slice (some ⟨q, off, none⟩) m cap) := HS.out.cell 0 rfl
    have q1 : v1.cell? ⟨w1.heap.size, 1, none⟩ = some (.int .i64 h.kd) := HS.out.cell 1 rfl
    have q2 : v1.cell? ⟨w1.heap.size, 2, none⟩ = some (.int .i64 h.ho) := HS.out.cell 2 rfl
    have q3 : v1.cell? ⟨w1.heap.size, 3, none⟩ = some (.int .i64 h.tu) := HS.out.cell 3 rfl
    go_wp2_with fail
    replace HS : Hid (FH w v1.drew w1.heap.size (.slice (some ⟨q, off, none⟩) m cap) h) := HS.out.drew
    go_region_held3 (fun w' => w'.cell? ⟨w1.heap.size, 0, none⟩ = some (.slice (some ⟨q, off, none⟩) m cap) ∧ w'.cell? ⟨w1.heap.size, 1, none⟩ = some (.int .i64 h.kd) ∧ w'.cell? ⟨w1.heap.size, 2, none⟩ = some (.int .i64 h.ho) ∧ w'.cell? ⟨w1.heap.size, 3, none⟩ = some (.int .i64 h.tu)) (refine ⟨?_, ?_, ?_, ?_⟩ <;> assumption)
      (first
        | (go_at_call 12; refine (cms _ HS.out.2.2).mono ?_; rintro e v2 ⟨rfl, b2⟩; replace HS : Hid (FH w v2 w1.heap.size (.slice (some ⟨q, off, none⟩) m cap) h) := HS.out.next b2; clear b2; clear q0 q1 q2 q3; have q0 : v2.cell? ⟨w1.heap.size, 0, none⟩ = some (.slice (some ⟨q, off, none⟩) m cap) := HS.out.cell 0 rfl; have q1 : v2.cell? ⟨w1.heap.size, 1, none⟩ = some (.int .i64 h.kd) := HS.out.cell 1 rfl; have q2 : v2.cell? ⟨w1.heap.size, 2, none⟩ = some (.int .i64 h.ho) := HS.out.cell 2 rfl; have q3 : v2.cell? ⟨w1.heap.size, 3, none⟩ = some (.int .i64 h.tu) := HS.out.cell 3 rfl)
        | (go_at_call 13; refine (co _ HS.out.2.2).mono ?_; rintro e v3 ⟨rfl, b3⟩; replace HS : Hid (FH w v3 w1.heap.size (.slice (some ⟨q, off, none⟩) m cap) h) := HS.out.next b3; clear b3; clear q0 q1 q2 q3; have q0 : v3.cell? ⟨w1.heap.size, 0, none⟩ = some (.slice (some ⟨q, off, none⟩) m cap) := HS.out.cell 0 rfl; have q1 : v3.cell? ⟨w1.heap.size, 1, none⟩ = some (.int .i64 h.kd) := HS.out.cell 1 rfl; have q2 : v3.cell? ⟨w1.heap.size, 2, none⟩ = some (.int .i64 h.ho) := HS.out.cell 2 rfl; have q3 : v3.cell? ⟨w1.heap.size, 3, none⟩ = some (.int .i64 h.tu) := HS.out.cell 3 rfl)
        | (go_at_call 14; refine (cos _ HS.out.2.2).mono ?_; rintro e v4 ⟨rfl, b4⟩; replace HS : Hid (FH w v4 w1.heap.size (.slice (some ⟨q, off, none⟩) m cap) h) := HS.out.next b4; clear b4; clear q0 q1 q2 q3; have q0 : v4.cell? ⟨w1.heap.size, 0, none⟩ = some (.slice (some ⟨q, off, none⟩) m cap) := HS.out.cell 0 rfl; have q1 : v4.cell? ⟨w1.heap.size, 1, none⟩ = some (.int .i64 h.kd) := HS.out.cell 1 rfl; have q2 : v4.cell? ⟨w1.heap.size, 2, none⟩ = some (.int .i64 h.ho) := HS.out.cell 2 rfl; have q3 : v4.cell? ⟨w1.heap.size, 3, none⟩ = some (.int .i64 h.tu) := HS.out.cell 3 rfl)
        | (go_at_call 15; refine (ch _ HS.out.2.2).mono ?_; rintro e v5 ⟨rfl, b5⟩; replace HS : Hid (FH w v5 w1.heap.size (.slice (some ⟨q, off, none⟩) m cap) h) := HS.out.next b5; clear b5; clear q0 q1 q2 q3; have q0 : v5.cell? ⟨w1.heap.size, 0, none⟩ = some (.slice (some ⟨q, off, none⟩) m cap) := HS.out.cell 0 rfl; have q1 : v5.cell? ⟨w1.heap.size, 1, none⟩ = some (.int .i64 h.kd) := HS.out.cell 1 rfl; have q2 : v5.cell? ⟨w1.heap.size, 2, none⟩ = some (.int .i64 h.ho) := HS.out.cell 2 rfl; have q3 : v5.cell? ⟨w1.heap.size, 3, none⟩ = some (.int .i64 h.tu) := HS.out.cell 3 rfl)
        | (go_at_call 16; refine (chs _ HS.out.2.2).mono ?_; rintro e v6 ⟨rfl, b6⟩; replace HS : Hid (FH w v6 w1.heap.size (.slice (some ⟨q, off, none⟩) m cap) h) := HS.out.next b6; clear b6; clear q0 q1 q2 q3; have q0 : v6.cell? ⟨w1.heap.size, 0, none⟩ = some (.slice (some ⟨q, off, none⟩) m cap) := HS.out.cell 0 rfl; have q1 : v6.cell? ⟨w1.heap.size, 1, none⟩ = some (.int .i64 h.kd) := HS.out.cell 1 rfl; have q2 : v6.cell? ⟨w1.heap.size, 2, none⟩ = some (.int .i64 h.ho) := HS.out.cell 2 rfl; have q3 : v6.cell? ⟨w1.heap.size, 3, none⟩ = some (.int .i64 h.tu) := HS.out.cell 3 rfl)
        | (go_at_call 17; refine (cr _ HS.out.2.2).mono ?_; rintro e v7 ⟨rfl, b7⟩; replace HS : Hid (FH w v7 w1.heap.size (.slice (some ⟨q, off, none⟩) m cap) h) := HS.out.next b7; clear b7; clear q0 q1 q2 q3; have q0 : v7.cell? ⟨w1.heap.size, 0, none⟩ = some (.slice (some ⟨q, off, none⟩) m cap) := HS.out.cell 0 rfl; have q1 : v7.cell? ⟨w1.heap.size, 1, none⟩ = some (.int .i64 h.kd) := HS.out.cell 1 rfl; have q2 : v7.cell? ⟨w1.heap.size, 2, none⟩ = some (.int .i64 h.ho) := HS.out.cell 2 rfl; have q3 : v7.cell? ⟨w1.heap.size, 3, none⟩ = some (.int .i64 h.tu) := HS.out.cell 3 rfl)
        | (go_at_call 18; refine (crs _ HS.out.2.2).mono ?_; rintro e v8 ⟨rfl, b8⟩; replace HS : Hid (FH w v8 w1.heap.size (.slice (some ⟨q, off, none⟩) m cap) h) := HS.out.next b8; clear b8; clear q0 q1 q2 q3; have q0 : v8.cell? ⟨w1.heap.size, 0, none⟩ = some (.slice (some ⟨q, off, none⟩) m cap) := HS.out.cell 0 rfl; have q1 : v8.cell? ⟨w1.heap.size, 1, none⟩ = some (.int .i64 h.kd) := HS.out.cell 1 rfl; have q2 : v8.cell? ⟨w1.heap.size, 2, none⟩ = some (.int .i64 h.ho) := HS.out.cell 2 rfl; have q3 : v8.cell? ⟨w1.heap.size, 3, none⟩ = some (.int .i64 h.tu) := HS.out.cell 3 rfl))
    clear cms co chs crs cm
    go_wp2_with fail
    refine (inewH_any _).mono ?_
    rintro e v9 ⟨u2, rfl, o9, b9⟩
    replace HS : Hid (FH w v9 w1.heap.size (.slice (some ⟨q, off, none⟩) m cap) h) := HS.out.next b9
    obtain ⟨ao, cp, rfl⟩ := reads_form o9.reads
    have HN : Hid (FH w (v9.alloc (.cells (hdA (.slice ao Hd.new.ks.length cp) Hd.new) 26)) v9.heap.size (.slice ao Hd.new.ks.length cp) Hd.new) := FH.start HS.out.1 o9.reads
    replace HS : Hid (FH w (v9.alloc (.cells (hdA (.slice ao Hd.new.ks.length cp) Hd.new) 26)) w1.heap.size (.slice (some ⟨q, off, none⟩) m cap) h) := HS.out.next ((Below.refl _ _).alloc (Nat.le_refl _) _)
    have cn := fun wx (hr : Reads wx (.slice ao Hd.new.ks.length cp) Hd.new.ks) => sholdok_any (.slice ao Hd.new.ks.length cp) Hd.new wx hr (by decide)
    have cq := fun wx (hr : Reads wx (.slice ao Hd.new.ks.length cp) Hd.new.ks) => iMay_any (.slice ao Hd.new.ks.length cp) Hd.new 0 true wx hr (by decide)
    rw [show Hd.new.ok = true from by decide] at cn
    rw [show Hd.new.May 0 true = true from by decide] at cq
    rw [show Hd.new.ks.length = 4 from rfl] at *
    have HV4 : HV (.slice ao 4 cp) Hd.new = .agg #[(.slice ao 4 cp), .int .i64 0, .int .i64 (-1), .int .i64 0] := rfl
    have HA4 : hdA (.slice ao 4 cp) Hd.new = #[(.slice ao 4 cp), .int .i64 0, .int .i64 (-1), .int .i64 0] := rfl
    rw [HV4] at cn cq ⊢
    rw [HA4] at HN HS
    clear HV4 HA4 o9 b9
    have z0 : (v9.alloc (.cells #[(.slice ao 4 cp), .int .i64 0, .int .i64 (-1), .int .i64 0] 26)).cell? ⟨v9.heap.size, 0, none⟩ = some (.slice ao 4 cp) := HN.out.cell 0 rfl
    have z1 : (v9.alloc (.cells #[(.slice ao 4 cp), .int .i64 0, .int .i64 (-1), .int .i64 0] 26)).cell? ⟨v9.heap.size, 1, none⟩ = some (.int .i64 0) := HN.out.cell 1 rfl
    have z2 : (v9.alloc (.cells #[(.slice ao 4 cp), .int .i64 0, .int .i64 (-1), .int .i64 0] 26)).cell? ⟨v9.heap.size, 2, none⟩ = some (.int .i64 (-1)) := HN.out.cell 2 rfl
    have z3 : (v9.alloc (.cells #[(.slice ao 4 cp), .int .i64 0, .int .i64 (-1), .int .i64 0] 26)).cell? ⟨v9.heap.size, 3, none⟩ = some (.int .i64 0) := HN.out.cell 3 rfl
    go_wp2_with fail
    refine (cn _ HN.out.2.2).mono ?_
    rintro e v10 ⟨rfl, b10⟩
    replace HS : Hid (FH w v10 w1.heap.size (.slice (some ⟨q, off, none⟩) m cap) h) := HS.out.next b10
    replace HN : Hid (FH w v10 v9.heap.size (.slice ao 4 cp) Hd.new) := HN.out.next b10
    clear b10 z0 z1 z2 z3
    have z0 : v10.cell? ⟨v9.heap.size, 0, none⟩ = some (.slice ao 4 cp) := HN.out.cell 0 rfl
    have z1 : v10.cell? ⟨v9.heap.size, 1, none⟩ = some (.int .i64 0) := HN.out.cell 1 rfl
    have z2 : v10.cell? ⟨v9.heap.size, 2, none⟩ = some (.int .i64 (-1)) := HN.out.cell 2 rfl
    have z3 : v10.cell? ⟨v9.heap.size, 3, none⟩ = some (.int .i64 0) := HN.out.cell 3 rfl
    go_wp2_with fail
    refine (cq _ HN.out.2.2).mono ?_
    rintro e v11 ⟨rfl, b11⟩
    replace HS : Hid (FH w v11 w1.heap.size (.slice (some ⟨q, off, none⟩) m cap) h) := HS.out.next b11
    clear b11 z0 z1 z2 z3 HN cn cq
    clear q0 q1 q2 q3
    have q0 : v11.cell? ⟨w1.heap.size, 0, none⟩ = some (.slice (some ⟨q, off, none⟩) m cap) := HS.out.cell 0 rfl
    have q1 : v11.cell? ⟨w1.heap.size, 1, none⟩ = some (.int .i64 h.kd) := HS.out.cell 1 rfl
    have q2 : v11.cell? ⟨w1.heap.size, 2, none⟩ = some (.int .i64 h.ho) := HS.out.cell 2 rfl
    have q3 : v11.cell? ⟨w1.heap.size, 3, none⟩ = some (.int .i64 h.tu) := HS.out.cell 3 rfl
    go_wp2_with fail
    refine (cos _ HS.out.2.2).mono ?_
    rintro e v12 ⟨rfl, b12⟩
    replace HS : Hid (FH w v12 w1.heap.size (.slice (some ⟨q, off, none⟩) m cap) h) := HS.out.next b12
    clear b12
    clear q0 q1 q2 q3
    have q0 : v12.cell? ⟨w1.heap.size, 0, none⟩ = some (.slice (some ⟨q, off, none⟩) m cap) := HS.out.cell 0 rfl
    have q1 : v12.cell? ⟨w1.heap.size, 1, none⟩ = some (.int .i64 h.kd) := HS.out.cell 1 rfl
    have q2 : v12.cell? ⟨w1.heap.size, 2, none⟩ = some (.int .i64 h.ho) := HS.out.cell 2 rfl
    have q3 : v12.cell? ⟨w1.heap.size, 3, none⟩ = some (.int .i64 h.tu) := HS.out.cell 3 rfl
    clear cos
    cases vo with
    | false =>
      obtain ⟨rfl, rfl, rfl⟩ := N1.out rfl
      clear N1 N2 N3 cmi chi cri
      go_wp2_with fail
      refine (ch _ HS.out.2.2).mono ?_
      rintro e v13 ⟨rfl, b13⟩
      replace HS : Hid (FH w v13 w1.heap.size (.slice (some ⟨q, off, none⟩) m cap) h) := HS.out.next b13
      clear b13
      clear q0 q1 q2 q3
      have q0 : v13.cell? ⟨w1.heap.size, 0, none⟩ = some (.slice (some ⟨q, off, none⟩) m cap) := HS.out.cell 0 rfl
      have q1 : v13.cell? ⟨w1.heap.size, 1, none⟩ = some (.int .i64 h.kd) := HS.out.cell 1 rfl
      have q2 : v13.cell? ⟨w1.heap.size, 2, none⟩ = some (.int .i64 h.ho) := HS.out.cell 2 rfl
      have q3 : v13.cell? ⟨w1.heap.size, 3, none⟩ = some (.int .i64 h.tu) := HS.out.cell 3 rfl
      go_wp2_with fail
      refine (cr _ HS.out.2.2).mono ?_
      rintro e v14 ⟨rfl, b14⟩
      replace HS : Hid (FH w v14 w1.heap.size (.slice (some ⟨q, off, none⟩) m cap) h) := HS.out.next b14
      clear b14
      clear q0 q1 q2 q3
      have q0 : v14.cell? ⟨w1.heap.size, 0, none⟩ = some (.slice (some ⟨q, off, none⟩) m cap) := HS.out.cell 0 rfl
      have q1 : v14.cell? ⟨w1.heap.size, 1, none⟩ = some (.int .i64 h.kd) := HS.out.cell 1 rfl
      have q2 : v14.cell? ⟨w1.heap.size, 2, none⟩ = some (.int .i64 h.ho) := HS.out.cell 2 rfl
      have q3 : v14.cell? ⟨w1.heap.size, 3, none⟩ = some (.int .i64 h.tu) := HS.out.cell 3 rfl
      have HB : Hid (Below w.heap.size w _) := HS.out.1
      clear HS
      clear q0 q1 q2 q3
      go_wp2
      go_ret
      exact ⟨rfl, HB.out⟩
    | true =>
      have N4 := N3.out rfl
      have HN4 : Hid (_ ∧ _ ∧ _) := N4
      clear N1 N3 N4 ch cr
      go_wp2
      go_loopw [8, 9, 10] (fun s a i wr => ∃ j : Nat, (j : Int) ≤ 4 ∧ i = .int .i64 j ∧ s = .int .i64 (cnt h.Hol j : Nat) ∧ a = .int .i64 (cnt h.Reg j : Nat) ∧ Hid (FH w wr w1.heap.size (.slice (some ⟨q, off, none⟩) m cap) h)) (fun _ _ i _ => 4 - (intOf i).toNat)
      case atStart => exact ⟨0, by omega, rfl, rfl, rfl, HS⟩
      case round =>
        obtain ⟨j, hj, rfl, rfl, rfl, HR⟩ := hrel
        clear HS
        have HS : Hid (FH w wr w1.heap.size (.slice (some ⟨q, off, none⟩) m cap) h) := HR
        clear HR q0 q1 q2 q3
        have q0 : wr.cell? ⟨w1.heap.size, 0, none⟩ = some (.slice (some ⟨q, off, none⟩) m cap) := HS.out.cell 0 rfl
        have q1 : wr.cell? ⟨w1.heap.size, 1, none⟩ = some (.int .i64 h.kd) := HS.out.cell 1 rfl
        have q2 : wr.cell? ⟨w1.heap.size, 2, none⟩ = some (.int .i64 h.ho) := HS.out.cell 2 rfl
        have q3 : wr.cell? ⟨w1.heap.size, 3, none⟩ = some (.int .i64 h.tu) := HS.out.cell 3 rfl
        have ls := cnt_le h.Hol j
        have la := cnt_le h.Reg j
        by_cases hlt : (j : Int) < 4
        · have HH : Hid (cnt h.Hol (j + 1) = cnt h.Hol j + (if h.Hol (j : Int) = true then 1 else 0)) := rfl
          have HA : Hid (cnt h.Reg (j + 1) = cnt h.Reg j + (if h.Reg (j : Int) = true then 1 else 0)) := rfl
          obtain ⟨s, hs⟩ : ∃ s : Nat, s = cnt h.Hol j := ⟨_, rfl⟩
          obtain ⟨a, ha⟩ : ∃ a : Nat, a = cnt h.Reg j := ⟨_, rfl⟩
          rw [← hs] at HH ls ⊢
          rw [← ha] at HA la ⊢
          have c1 := chi (j : Int)
          have c2 := cri (j : Int)
          have c3 := cmi (j : Int) true
          have c4 := cmi (j : Int) false
          have N5 : Hid (h.Hol (j : Int) = true → h.Reg (j : Int) = true ∧ h.May (j : Int) true = true ∧ h.May (j : Int) false = true) := N2.out (j : Int)
          obtain ⟨bh, hbh⟩ : ∃ bh, bh = h.Hol (j : Int) := ⟨_, rfl⟩
          obtain ⟨br, hbr⟩ : ∃ br, br = h.Reg (j : Int) := ⟨_, rfl⟩
          obtain ⟨bt, hbt⟩ : ∃ bt, bt = h.May (j : Int) true := ⟨_, rfl⟩
          obtain ⟨bf, hbf⟩ : ∃ bf, bf = h.May (j : Int) false := ⟨_, rfl⟩
          rw [← hbh] at HH N5
          rw [← hbr] at HA N5
          rw [← hbt, ← hbf] at N5
          simp only [← hbh] at c1
          simp only [← hbr] at c2
          simp only [← hbt] at c3
          simp only [← hbf] at c4
          clear hs ha hbh hbr hbt hbf cmi chi cri N2 HN4
          go_wp2_with fail
          refine (c1 _ HS.out.2.2).mono ?_
          rintro e v15 ⟨rfl, b15⟩
          replace HS : Hid (FH w v15 w1.heap.size (.slice (some ⟨q, off, none⟩) m cap) h) := HS.out.next b15
          clear b15
          clear q0 q1 q2 q3
          have q0 : v15.cell? ⟨w1.heap.size, 0, none⟩ = some (.slice (some ⟨q, off, none⟩) m cap) := HS.out.cell 0 rfl
          have q1 : v15.cell? ⟨w1.heap.size, 1, none⟩ = some (.int .i64 h.kd) := HS.out.cell 1 rfl
          have q2 : v15.cell? ⟨w1.heap.size, 2, none⟩ = some (.int .i64 h.ho) := HS.out.cell 2 rfl
          have q3 : v15.cell? ⟨w1.heap.size, 3, none⟩ = some (.int .i64 h.tu) := HS.out.cell 3 rfl
          clear c1
          cases bh with
          | true =>
            obtain ⟨rfl, rfl, rfl⟩ := N5.out rfl
            clear N5
            go_wp2_with fail
            refine (c2 _ HS.out.2.2).mono ?_
            rintro e v16 ⟨rfl, b16⟩
            replace HS : Hid (FH w v16 w1.heap.size (.slice (some ⟨q, off, none⟩) m cap) h) := HS.out.next b16
            clear b16
            clear q0 q1 q2 q3
            have q0 : v16.cell? ⟨w1.heap.size, 0, none⟩ = some (.slice (some ⟨q, off, none⟩) m cap) := HS.out.cell 0 rfl
            have q1 : v16.cell? ⟨w1.heap.size, 1, none⟩ = some (.int .i64 h.kd) := HS.out.cell 1 rfl
            have q2 : v16.cell? ⟨w1.heap.size, 2, none⟩ = some (.int .i64 h.ho) := HS.out.cell 2 rfl
            have q3 : v16.cell? ⟨w1.heap.size, 3, none⟩ = some (.int .i64 h.tu) := HS.out.cell 3 rfl
            go_wp2_with fail
            refine (c3 _ HS.out.2.2).mono ?_
            rintro e v17 ⟨rfl, b17⟩
            replace HS : Hid (FH w v17 w1.heap.size (.slice (some ⟨q, off, none⟩) m cap) h) := HS.out.next b17
            clear b17
            clear q0 q1 q2 q3
            have q0 : v17.cell? ⟨w1.heap.size, 0, none⟩ = some (.slice (some ⟨q, off, none⟩) m cap) := HS.out.cell 0 rfl
            have q1 : v17.cell? ⟨w1.heap.size, 1, none⟩ = some (.int .i64 h.kd) := HS.out.cell 1 rfl
            have q2 : v17.cell? ⟨w1.heap.size, 2, none⟩ = some (.int .i64 h.ho) := HS.out.cell 2 rfl
            have q3 : v17.cell? ⟨w1.heap.size, 3, none⟩ = some (.int .i64 h.tu) := HS.out.cell 3 rfl
            go_wp2_with fail
            refine (c4 _ HS.out.2.2).mono ?_
            rintro e v18 ⟨rfl, b18⟩
            replace HS : Hid (FH w v18 w1.heap.size (.slice (some ⟨q, off, none⟩) m cap) h) := HS.out.next b18
            clear b18
            clear q0 q1 q2 q3
            have q0 : v18.cell? ⟨w1.heap.size, 0, none⟩ = some (.slice (some ⟨q, off, none⟩) m cap) := HS.out.cell 0 rfl
            have q1 : v18.cell? ⟨w1.heap.size, 1, none⟩ = some (.int .i64 h.kd) := HS.out.cell 1 rfl
            have q2 : v18.cell? ⟨w1.heap.size, 2, none⟩ = some (.int .i64 h.ho) := HS.out.cell 2 rfl
            have q3 : v18.cell? ⟨w1.heap.size, 3, none⟩ = some (.int .i64 h.tu) := HS.out.cell 3 rfl
            go_wp2_with fail
            refine (c2 _ HS.out.2.2).mono ?_
            rintro e v19 ⟨rfl, b19⟩
            replace HS : Hid (FH w v19 w1.heap.size (.slice (some ⟨q, off, none⟩) m cap) h) := HS.out.next b19
            clear b19
            clear q0 q1 q2 q3
            have q0 : v19.cell? ⟨w1.heap.size, 0, none⟩ = some (.slice (some ⟨q, off, none⟩) m cap) := HS.out.cell 0 rfl
            have q1 : v19.cell? ⟨w1.heap.size, 1, none⟩ = some (.int .i64 h.kd) := HS.out.cell 1 rfl
            have q2 : v19.cell? ⟨w1.heap.size, 2, none⟩ = some (.int .i64 h.ho) := HS.out.cell 2 rfl
            have q3 : v19.cell? ⟨w1.heap.size, 3, none⟩ = some (.int .i64 h.tu) := HS.out.cell 3 rfl
            clear c3 c4
            have HS3 := HS
            clear HS c2 q0 q1 q2 q3
            go_wp2
            go_roundw
            case rel => exact ⟨j + 1, by omega, by go_num, by rw [HH.out]; go_num, by rw [HA.out]; go_num, HS3⟩
            case measure => simp [intOf]; omega
          | false =>
            clear c3 c4 N5
            go_wp2_with fail
            refine (c2 _ HS.out.2.2).mono ?_
            rintro e v20 ⟨rfl, b20⟩
            replace HS : Hid (FH w v20 w1.heap.size (.slice (some ⟨q, off, none⟩) m cap) h) := HS.out.next b20
            clear b20
            clear q0 q1 q2 q3
            have q0 : v20.cell? ⟨w1.heap.size, 0, none⟩ = some (.slice (some ⟨q, off, none⟩) m cap) := HS.out.cell 0 rfl
            have q1 : v20.cell? ⟨w1.heap.size, 1, none⟩ = some (.int .i64 h.kd) := HS.out.cell 1 rfl
            have q2 : v20.cell? ⟨w1.heap.size, 2, none⟩ = some (.int .i64 h.ho) := HS.out.cell 2 rfl
            have q3 : v20.cell? ⟨w1.heap.size, 3, none⟩ = some (.int .i64 h.tu) := HS.out.cell 3 rfl
            cases br with
            | true =>
              have HS3 := HS
              clear HS c2 q0 q1 q2 q3
              go_wp2
              go_roundw
              case rel => exact ⟨j + 1, by omega, by go_num, by rw [HH.out]; simp, by rw [HA.out]; go_num, HS3⟩
              case measure => simp [intOf]; omega
            | false =>
              have HS3 := HS
              clear HS c2 q0 q1 q2 q3
              go_wp2
              go_roundw
              case rel => exact ⟨j + 1, by omega, by go_num, by rw [HH.out]; simp, by rw [HA.out]; simp, HS3⟩
              case measure => simp [intOf]; omega
        · obtain rfl : j = 4 := by omega
          obtain ⟨s, hs⟩ : ∃ s : Nat, s = cnt h.Hol 4 := ⟨_, rfl⟩
          obtain ⟨a, ha⟩ : ∃ a : Nat, a = cnt h.Reg 4 := ⟨_, rfl⟩
          have K := HN4.out
          rw [← hs, ← ha] at K
          rw [← hs] at ls ⊢
          rw [← ha] at la ⊢
          have cf := fun wx => sall_any h.kd wx
          obtain ⟨bf, hbf⟩ : ∃ bf, bf = allI h.kd := ⟨_, rfl⟩
          rw [← hbf] at K
          simp only [← hbf] at cf
          obtain ⟨kd, hkd⟩ : ∃ kd, kd = h.kd := ⟨_, rfl⟩
          rw [← hkd] at K q1
          simp only [← hkd] at cf
          have HB : Hid (Below w.heap.size w wr) := HS.out.1
          have HK : Hid (_ ∧ _ ∧ _) := K
          clear K hs ha hbf hkd HS HN4 N2 cmi chi cri q0 q2 q3
          by_cases h0 : kd = 0
          · obtain rfl : s = 0 := HK.out.1 h0
            go_wp2
            go_ret
            exact ⟨rfl, HB.out⟩
          · go_wp2_with fail
            refine (cf _).mono ?_
            rintro e w' ⟨rfl, hw'⟩; subst w'
            clear cf
            cases bf with
            | true =>
              obtain ⟨rfl, hp⟩ := HK.out.2.1 h0 rfl
              have hpi : (0 : Int) < (s : Int) := by omega
              go_wp2
              go_ret
              exact ⟨rfl, HB.out⟩
            | false =>
              obtain rfl : s = 1 := HK.out.2.2 h0 rfl
              go_wp2
              go_ret
              exact ⟨rfl, HB.out⟩

set_option maxRecDepth 100000 in
theorem lifted (os : Os) (started : os.Started) (H : Type) (enc : TypeId × Value → H) :
    ReturnsInHanded {} Try.checked os 3 .any (Rows.fnHoldingSpec.pre6 enc Try.prog Try.f3 Rows.fnHoldingRow.domain false) (Rows.fnHoldingSpec.post enc Try.prog Try.f3 false true false false) := by
  refine returnsInHanded_of_change (C := Try.checked) own started (by kernel_rfl) Try.func3
    (ChangeSpec.witness6 (enc := enc) (C := Try.checked) false ⟨#[], #[.slice none 0 0], []⟩ 8 (by kernel_rfl) (by kernel_rfl) (by kernel_rfl) (by kernel_rfl)) ?_
  intro W base args ds gs before hval0 hW hcnd _
  have hval : ∀ (j : Nat) t v, Try.f3.params[j]? = some t → args[j]? = some v → Value.okWide Try.prog W .any base t v := hval0
  have hW' := hW
  obtain ⟨p, q, hA0, hV, rfl, hfz, hnd⟩ := hW
  have hA : DataW.TrodAll enc Try.prog W 0 (fun _ => true) true Try.f3.params.toList args.toList ds p := hA0
  rw [Try.params3] at hA hval
  obtain ⟨v0, vs0, d0, ds0, p0, q0, hargs, rfl, rfl, h0, r0⟩ := trodAll_cons hA
  obtain ⟨rfl, rfl, rfl⟩ := trodAll_nil r0
  obtain rfl : args = #[v0] := by cases args; simp_all
  obtain ⟨rfl, rfl⟩ := trodVars_none hV
  obtain ⟨a0, len0, cap0, rfl⟩ := okWide_slice Try.underlying22 (hval 0 22 v0 rfl rfl)
  have k0 := h0
  have lt0 : ∀ x ∈ p0, x.block < W.heap.size := by obtain ⟨m, hm⟩ := k0; exact DataW.trod_lt m _ _ _ hm
  obtain ⟨z0, w0⟩ : ∃ zs, IsRow .u8 W a0 len0 cap0 zs := by
    obtain ⟨fuel, hf⟩ := h0
    rcases open_ints Try.underlying22 Try.underlying5 (by kernel_rfl) hf with ⟨hcs, _⟩ | ⟨x, l, c, zs, hcs, _, hl, hm, hz, _, hcell, hwz⟩
    · simp [Value.cells] at hcs
      obtain ⟨rfl, rfl, rfl⟩ := hcs
      exact ⟨[], .inl ⟨rfl, rfl, rfl, rfl⟩⟩
    · simp [Value.cells] at hcs
      obtain ⟨rfl, rfl, rfl⟩ := hcs
      exact ⟨zs, .inr ⟨_, rfl, hl, hm, by simpa using hz, hcell, hwz⟩⟩
  clear hA0 hval0
  refine (walk a0 len0 cap0 z0 W w0).mono fun e W' ⟨he, bel⟩ => ?_
  subst he
  exact ⟨_, rfl, _, _, _, [], _, [], hW', trodAll_mk1 (shut_bool Try.underlying4 _), (trodAll_cons_mk (Below.trod laidOut (by kernel_rfl) (of_decide_eq_true (by kernel_rfl)) k0 bel lt0) trodAll_mk0), rfl, bel.frame _, fun h => by cases h⟩

theorem over : Rows.fnHoldingRow.holds Try.pinned (OpenSpec.ofChange Rows.fnHoldingSpec) :=
  OpenClaim.holds_of_wide 3 Try.f3 rfl rfl rfl rfl rfl rfl rfl ⟨rfl, rfl, rfl, rfl, rfl⟩ rfl rfl rfl rfl rfl (by kernel_rfl) Try.func3 (by kernel_rfl)
    (of_decide_eq_true (by kernel_rfl)) (by unfold Func.isWrapper; first | (rw [if_pos (by decide +kernel)]; kernel_rfl) | (rw [if_neg (by decide +kernel)]; exact ⟨rfl, rfl⟩))
    (fun os started H enc _ => lifted os started H enc)

theorem proved : Rows.FnHoldingSaid := over
end Go.Proofs.Ytaipogenbaghpaa.fnHolding
namespace Go.Proofs.Ytaipogenbaghpaa
theorem fnHolding_holds : Rows.FnHoldingSaid := fnHolding.proved
end Go.Proofs.Ytaipogenbaghpaa
