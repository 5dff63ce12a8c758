/-
  The contracts of the rows that are there and of CodeBears, in the model.
  Conditions: none.
-/
import Derived.Test.YtbpkfcaokbidnabCodeSpec
import Derived.Test.YtbpkfcaokbidnabSpanSpec4
import Derived.Test.YtbpkfcaokbidnabFlags
import Derived.Test.YtbpkfcaokbidnabCodeBear3
namespace Go.Proofs.Ytbpkfcaokbidnab
open Go.RowKit
set_option linter.unusedVariables false

/-- rows that are there, of the first n shards. -/
def crowsK (k : Nat) (f : List Bool) (n : Nat) : List (List Int) := ((List.range n).filter fun i => f.getD i false).map (Sp.crow k)
theorem crowsK_yes {k : Nat} {f : List Bool} {n : Nat} (h : f.getD n false = true) : crowsK k f n ++ [Sp.crow k n] = crowsK k f (n + 1) := by
  unfold crowsK
  simp only [List.range_succ, List.filter_append, List.map_append]
  congr 1
  simp only [List.filter_cons, h]
  rfl
theorem crowsK_no {k : Nat} {f : List Bool} {n : Nat} (h : f.getD n false = false) : crowsK k f (n + 1) = crowsK k f n := by
  unfold crowsK
  simp only [List.range_succ, List.filter_append, List.map_append]
  simp only [List.filter_cons, h]
  simp
theorem crowsK_len (k : Nat) (f : List Bool) (n : Nat) : (crowsK k f n).length ≤ n := by
  unfold crowsK
  rw [List.length_map]
  have := List.length_filter_le (fun i => f.getD i false) (List.range n)
  rwa [List.length_range] at this

set_option maxHeartbeats 2000000 in
set_option maxRecDepth 20000 in
theorem specL4Rows {k : Nat} (hk : k = 1 ∨ k = 2) (v : Value) (f : List Bool) (w : World) (h : Bl w v f) (hf : f.length = 8) : Calls Try.prog 85 #[.int .i64 k, v] w (NewSTab w.heap.size (Sp.crows k f) w) := by
  obtain ⟨i0, hi, hz0, hz1, hz2⟩ := info_parts infoInts
  have I1 := Lib.hid hi
  have I2 := Lib.hid hz0
  have I3 := Lib.hid hz1
  have I4 := Lib.hid hz2
  clear hi hz0 hz1 hz2
  obtain ⟨a, cap, rfl, h1, h2, hr⟩ := h
  rw [hf] at h1 ⊢
  unfold maxLen at h2
  have R := Lib.hid hr
  have HF := Lib.hid hf
  clear hr hf
  have M0 := Lib.hid (STab.made w w.heap.size (Nat.le_refl _))
  have RW := Lib.hid (fun (n : Nat) (h : n < 8) (w : World) => specL4Row hk h w)
  go_enter Try.func85, Try.ntmps85
  go_wp2_with fail
  go_loopw [5, 6] (fun o i wr => ∃ n : Nat, n ≤ 8 ∧ i = .int .i64 n ∧ w.grownBy wr none ∧ ∃ vs, STab wr w.heap.size o vs (crowsK k f n)) (fun _ i _ => 8 - (intOf i).toNat)
  case atStart => exact ⟨0, by omega, rfl, grown_alloc (World.grownBy.refl _ _) _, [], M0.out⟩
  case round =>
    obtain ⟨n, hn, rfl, hg, vs, ho⟩ := hrel
    have GR := Lib.hid hg
    have O := Lib.hid ho
    clear hg ho M0
    by_cases hlt : n < 8
    · have hlt' : (n : Int) < 8 := by omega
      obtain ⟨b, o, rfl, hx⟩ := (R.out.grown GR.out).at_ (k := n) (by rw [HF.out]; exact hlt)
      cases hfn : f.getD n false with
      | false =>
        rw [hfn] at hx
        have CK := Lib.hid (crowsK_no (k := k) hfn)
        clear hfn
        go_wp2_with fail
        go_roundw
        case rel => exact ⟨n + 1, by omega, by go_num, GR.out, vs, by rw [CK.out]; exact O.out⟩
        case measure => simp [intOf]; omega
      | true =>
        rw [hfn] at hx
        have CK := Lib.hid (crowsK_yes (k := k) hfn)
        have vl : vs.length ≤ 8 := by
          have := crowsK_len k f n
          rw [← O.out.len] at this
          omega
        clear hfn
        have r4 := (Sp.crow_row hk hlt).1
        have C4 := Lib.hid r4
        clear r4
        have hsz : w.heap.size ≤ wr.heap.size := GR.out.size
        have RN := Lib.hid (RW.out n hlt)
        generalize Sp.crow k n = row at *
        go_wp2_with fail
        refine (RN.out _).mono ?_
        rintro e w3 ⟨u, rfl, hg, ho⟩
        have G3 := Lib.hid hg
        have R3 : Hid (Sl w3 u row ∧ IntRow w3 u) := Lib.hid ⟨ho.sl, ho.intRow⟩
        have TOP : Hid (w3.ownsRow w.heap.size 33 1 u5 vs.length vs) := Lib.hid (O.out.still hg).top
        obtain ⟨au, cu, eu, _, _, _⟩ := ho.sl
        rw [C4.out] at eu
        clear hg ho hx
        subst eu
        have s3 : w.heap.size ≤ w3.heap.size := Nat.le_trans hsz G3.out.size
        go_wp2_with (first
          | (at_builtin; refine wpList_append_own _ rfl _ _ 62 rfl w.heap.size 33 i0 (.slice none 0 0) 1 24 Try.underlying62 I1.out I2.out I3.out I4.out rfl (by decide) _ _ _ rfl (World.ownsRow.alloc TOP.out _) ⟨w3.heap.size, 0, none⟩ 1 1 [.slice au 4 cu] rfl rfl (one_cell (g := 0)) (by simp [Value.oneCell']) ?c3 ?c4 ?c5 ?_))
        case c3 => unfold maxLen; omega
        case c4 => omega
        case c5 => simp; omega
        intro o' w5 ho2 hg2 _
        have N : Hid (STab w5 w.heap.size o' (vs ++ [.slice au 4 cu]) (crowsK k f (n + 1))) := Lib.hid (O.out.snoc G3.out R3.out (grown_trans (World.grownBy_alloc _ _ _) hg2) ho2 rfl CK.out)
        have G5 : Hid (w.grownBy w5 none) := Lib.hid (grown_own (grown_alloc (grown_trans GR.out G3.out) _) hg2 (fun j hj => (World.ownsRow.lt TOP.out j hj).1))
        clear ho2 hg2 TOP R3 G3
        go_wp2_with fail
        go_roundw
        case rel => exact ⟨n + 1, by omega, by go_num, G5.out, _, N.out⟩
        case measure => simp [intOf]; omega
    · obtain rfl : n = 8 := by omega
      go_wp2_with fail
      go_ret
      exact ⟨_, vs, rfl, GR.out, O.out⟩

set_option maxHeartbeats 2000000 in
set_option maxRecDepth 20000 in
theorem specBears (k : Int) (v : Value) (f : List Bool) (w : World) (h : Bl w v f) : Calls Try.prog 41 #[.int .i64 k, v] w fun e w' => e = .returned (.bool (bearsM k f)) ∧ w.grownBy w' none := by
  obtain ⟨a, cap, rfl, h1, h2, hr⟩ := id h
  have B := Lib.hid h
  unfold maxLen at h2
  clear h hr
  rcases kind_cases k with ⟨n, rfl, hn⟩ | ⟨k1, k2⟩
  · have K := kindM_yes hn
    by_cases hf : f.length = 8
    · rw [bearsM_yes hn hf]
      have L4 := Lib.hid (specL4Rows hn _ f w B.out hf)
      have TR := Lib.hid (Sp.crows_row hn f)
      have BD : Hid (Sp.bears n f = ((Sp.ltidy (Sp.crows n f)).length == 4)) := Lib.hid rfl
      have e8 : ((f.length : Int) == 8) = true := by rw [beq_iff_eq]; omega
      clear hf
      go_enter Try.func41, Try.ntmps41
      go_wp2_with fail
      refine (specKind n _).mono ?_
      rintro e w' ⟨rfl, rfl⟩
      rw [K]
      go_wp2_with fail
      refine L4.out.mono ?_
      rintro e w2 ⟨o2, vs2, rfl, hg, hst⟩
      have G2 := Lib.hid hg
      have T2 := Lib.hid hst.tab
      clear hg hst L4
      go_wp2_with fail
      refine (specL3Tidy o2 vs2 _ _ T2.out TR.out).mono ?_
      rintro e w3 ⟨o3, vs3, rfl, hg, hst⟩
      have G3 := Lib.hid (grown_trans G2.out hg)
      obtain ⟨a3, c3, rfl, hc1, hc2⟩ := stab_form hst
      clear hg hst T2 TR G2
      unfold maxLen at hc2
      generalize (Sp.ltidy (Sp.crows n f)).length = m at *
      go_wp2_with fail
      go_ret
      refine ⟨ret_bool ?_, G3.out⟩
      rw [BD.out]
      by_cases h4 : m = 4
      · subst h4; rfl
      · have e1 : (m == 4) = false := by rw [beq_eq_false_iff_ne]; exact h4
        have e2 : ((m : Int) == 4) = false := by rw [beq_eq_false_iff_ne]; omega
        rw [e1, e2]
    · rw [bearsM_short hf]
      have e8 : ((f.length : Int) == 8) = false := by rw [beq_eq_false_iff_ne]; omega
      clear hf
      go_enter Try.func41, Try.ntmps41
      go_wp2_with fail
      refine (specKind n _).mono ?_
      rintro e w' ⟨rfl, rfl⟩
      rw [K]
      go_wp2_with fail
      go_ret
      exact ⟨rfl, World.grownBy.refl _ _⟩
  · rw [bearsM_no k1 k2]
    have K := kindM_no k1 k2
    clear k1 k2
    go_enter Try.func41, Try.ntmps41
    go_wp2_with fail
    refine (specKind k _).mono ?_
    rintro e w' ⟨rfl, rfl⟩
    rw [K]
    go_wp2_with fail
    go_ret
    exact ⟨rfl, World.grownBy.refl _ _⟩
end Go.Proofs.Ytbpkfcaokbidnab
