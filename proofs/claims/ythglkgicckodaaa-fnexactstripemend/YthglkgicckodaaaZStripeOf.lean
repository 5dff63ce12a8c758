/-
  What this claim wants of the texts of earlier chapters.
  Conditions: none.
-/
import Derived.Test.YthglkgicckodaaaZStripeFits
import Derived.Shelf.RegionOpen
import Derived.Shelf.Abstract
namespace Go.Proofs.Ythglkgicckodaaa
open Go.RowKit Go.Shelf
set_option linter.unusedVariables false
set_option linter.unusedSimpArgs false
attribute [local go_sem] Oper.semAt_some
theorem zLen : SLen (List.replicate 32 0) (List.replicate 8 0) (List.replicate 8 0) (List.replicate 8 false) := ⟨rfl, rfl, rfl, rfl⟩
theorem info8 {L : List Int} (h : L.length = 8) : (Try.prog.info? 90).map (·.size) = some (vals L).length := by rw [vals_length, h]; kernel_rfl
theorem builtSt {k : Nat} (hk : k = 1 ∨ k = 2) {a v : List Int} {F : List Bool} (ha : a.length = 8) (hv : v.length = 8) (hF : F.length = 8) :
    Try.prog.built 94 [(0, .int .i64 k), (1, .agg (vals (grid k)).toArray), (2, .agg (vals a).toArray), (3, .agg (vals v).toArray), (4, .agg (bvals F).toArray)] = some (stv k (grid k) a v F).toArray := by
  obtain ⟨a0, a1, a2, a3, a4, a5, a6, a7, rfl⟩ := list_eight ha
  obtain ⟨v0, v1, v2, v3, v4, v5, v6, v7, rfl⟩ := list_eight hv
  obtain ⟨b0, b1, b2, b3, b4, b5, b6, b7, rfl⟩ := list_eight hF
  rcases hk with rfl | rfl <;> kernel_rfl
theorem builtNo : Try.prog.built 94 [] = some (stv 0 (List.replicate 32 0) (List.replicate 8 0) (List.replicate 8 0) (List.replicate 8 false)).toArray := by kernel_rfl
theorem wpBuild0 {P : Program} {ops : Array Oper} {rest : List Oper} {o : Oper} {a : Act} {w : World} {Q : Exit → Act → World → Prop} (hg : o.guard = none) (t : TypeId) (ho : o.op = .build t #[]) (cells : Array Value)
    (hf : P.built t [] = some cells) (h : wpList P ops Q rest (a.put o.dst (.agg cells)) w) : wpList P ops Q (o :: rest) a w := by
  have e : ((#[] : Array (Nat × Operand)).map fun (i, x) => (i, a.eval x)).toList = [] := by simp
  refine wpList_build hg t #[] ho (by rw [e, hf]; rfl) ?_
  rw [e, hf]
  exact h
theorem arrayAt8 (b o c : Nat) (w : World) : (Instr.arrayAt 90 (.slice (some ⟨b, o, none⟩) 8 c)).run Try.prog w = .ok (.pointer (some ⟨b, o, none⟩)) w := by kernel_rfl
theorem yieldsBuild {P : Program} {ops : Array Oper} {S : World → Prop} {o : Oper} {a : Act} (hw : Region.wanted o (yielded ops a.tmps) = true) (t : TypeId) (parts : Array (Nat × Operand)) (ho : o.op = .build t parts) (us : List (Nat × Value)) (cells : Array Value)
    (hp : parts.toList.map (fun (i, x) => (i, a.eval x)) = us) (hf : P.built t us = some cells) : YieldsIf P ops S o (.agg cells) a := by
  refine .inl ⟨hw, fun W hW => ?_⟩
  have e : (parts.map fun (i, x) => (i, a.eval x)).toList = us := by rw [← hp]; simp
  unfold execOp
  simp [ho, run_build W t (parts.map fun (i, x) => (i, a.eval x)) cells (by rw [e]; exact hf), Result.andThen]
def SZ (w : World) (g : Nat) : Prop := ∃ old, w.heap[g]? = some (.cells old 94 (0, 0)) ∧ old.size = 57
theorem SZ.lt {w : World} {g : Nat} (h : SZ w g) : g < w.heap.size := by obtain ⟨old, h, _⟩ := h; exact (Array.getElem?_eq_some_iff.1 h).1
theorem SZ.kept {w w' : World} {g : Nat} {r : Option Nat} (h : SZ w g) (hg : w.grownBy w' r) (hr : some g ≠ r) : SZ w' g := by
  have hlt := h.lt
  obtain ⟨old, h, h2⟩ := h
  exact ⟨old, (hg.block g hlt hr).trans h, h2⟩
theorem SZ.still {w w' : World} {g : Nat} (h : SZ w g) (hg : w.grownBy w' none) : SZ w' g := h.kept hg (by simp)
theorem SZ.new (w : World) : SZ (w.alloc (.cells #[.int .i64 0, .int .i64 0, .int .i64 0, .int .i64 0, .int .i64 0, .int .i64 0, .int .i64 0, .int .i64 0, .int .i64 0, .int .i64 0, .int .i64 0, .int .i64 0, .int .i64 0, .int .i64 0, .int .i64 0, .int .i64 0, .int .i64 0, .int .i64 0, .int .i64 0, .int .i64 0, .int .i64 0, .int .i64 0, .int .i64 0, .int .i64 0, .int .i64 0, .int .i64 0, .int .i64 0, .int .i64 0, .int .i64 0, .int .i64 0, .int .i64 0, .int .i64 0, .int .i64 0, .int .i64 0, .int .i64 0, .int .i64 0, .int .i64 0, .int .i64 0, .int .i64 0, .int .i64 0, .int .i64 0, .int .i64 0, .int .i64 0, .int .i64 0, .int .i64 0, .int .i64 0, .int .i64 0, .int .i64 0, .int .i64 0, .bool false, .bool false, .bool false, .bool false, .bool false, .bool false, .bool false, .bool false] 94)) w.heap.size := ⟨_, heap_alloc_new w _, rfl⟩
structure HeldOf (bp g ga gf vb vo : Nat) (k : Int) (us : List Value) (L A v : List Int) (F : List Bool) (W : World) : Prop where
  box : Blk W bp 45 us
  gen : Arr W g 87 L
  sh : Arr W ga 89 A
  fl : BArr W gf 92 F
  ver : W.rangeAt vb vo (vals v)
def OfT (k : Int) (a v : List Int) (f : List Bool) (w : World) (e : Ending) (w' : World) : Prop :=
  w.grownBy w' none ∧ ∃ (k' : Int) (L' a' v' : List Int) (F' : List Bool) (b : Bool), e = .returned (.tuple #[.agg (stv k' L' a' v' F').toArray, .bool b]) ∧ SLen L' a' v' F' ∧ (b = true ↔ StOk k a v f) ∧ (b = true → k' = k ∧ L' = grid k.toNat ∧ a' = a ∧ v' = v ∧ F' = f)
theorem rangeAt_grown {w w' : World} {b o : Nat} {cs : List Value} (h : w.rangeAt b o cs) (hg : w.grownBy w' none) : w'.rangeAt b o cs := fun j u hu => hg.cell (h j u hu) (by simp)
theorem HeldOf.still {bp g ga gf vb vo : Nat} {k : Int} {us : List Value} {L A v : List Int} {F : List Bool} {W W' : World} (h : HeldOf bp g ga gf vb vo k us L A v F W) (hg : W.grownBy W' none) : HeldOf bp g ga gf vb vo k us L A v F W' :=
  ⟨h.box.kept hg (by simp), h.gen.still hg, h.sh.still hg, h.fl.still hg, rangeAt_grown h.ver hg⟩
set_option maxHeartbeats 8000000 in
set_option maxRecDepth 40000 in
theorem stripeOf_ (k : Int) (u x y : Value) (a v : List Int) (f : List Bool) (w : World) (hu : Sl w u a) (hx : Sl w x v) (hy : Bl w y f) : Calls Try.prog 60 #[.agg #[.int .i64 k, u, x, y]] w (OfT k a v f w) := by
  have U := Lib.hid hu
  have X := Lib.hid hx
  have Y := Lib.hid hy
  obtain ⟨a1, c1, e1, q1, q2, _⟩ := hu
  obtain ⟨a2, c2, e2, q3, q4, hr2⟩ := hx
  obtain ⟨a3, c3, e3, q5, q6, _⟩ := hy
  subst e1 e2 e3
  have R2 := Lib.hid hr2
  obtain ⟨l1, hl1⟩ : ∃ n, n = a.length := ⟨_, rfl⟩
  obtain ⟨l2, hl2⟩ : ∃ n, n = v.length := ⟨_, rfl⟩
  obtain ⟨l3, hl3⟩ : ∃ n, n = f.length := ⟨_, rfl⟩
  rw [← hl1] at U ⊢
  rw [← hl2] at X q3 ⊢
  rw [← hl3] at Y ⊢
  have NL1 := Lib.hid hl1
  have NL2 := Lib.hid hl2
  have NL3 := Lib.hid hl3
  unfold maxLen at q4
  clear hl1 hl2 hl3 hr2 q1 q2 q5 q6
  have K0 : Hid (Blk (w.alloc (.cells #[.int .i64 k, .slice a1 l1 c1, .slice a2 l2 c2, .slice a3 l3 c3] 45)) w.heap.size 45 [.int .i64 k, .slice a1 l1 c1, .slice a2 l2 c2, .slice a3 l3 c3]) := Lib.hid (heap_alloc_new _ _)
  have G0 := Lib.hid (grown_alloc (World.grownBy.refl w none) (.cells #[.int .i64 k, .slice a1 l1 c1, .slice a2 l2 c2, .slice a3 l3 c3] 45))
  have Z0 := World.size_alloc w (.cells #[.int .i64 k, .slice a1 l1 c1, .slice a2 l2 c2, .slice a3 l3 c3] 45)
  go_enter Try.func60, Try.ntmps60
  go_upto_region 1 with fail
  generalize w.alloc (.cells #[.int .i64 k, .slice a1 l1 c1, .slice a2 l2 c2, .slice a3 l3 c3] 45) = Wa at *
  have K1 := Lib.hid (K0.out.kept (World.grownBy_alloc Wa (.cells #[.int .i64 0, .int .i64 0, .int .i64 0, .int .i64 0, .int .i64 0, .int .i64 0, .int .i64 0, .int .i64 0, .int .i64 0, .int .i64 0, .int .i64 0, .int .i64 0, .int .i64 0, .int .i64 0, .int .i64 0, .int .i64 0, .int .i64 0, .int .i64 0, .int .i64 0, .int .i64 0, .int .i64 0, .int .i64 0, .int .i64 0, .int .i64 0, .int .i64 0, .int .i64 0, .int .i64 0, .int .i64 0, .int .i64 0, .int .i64 0, .int .i64 0, .int .i64 0, .int .i64 0, .int .i64 0, .int .i64 0, .int .i64 0, .int .i64 0, .int .i64 0, .int .i64 0, .int .i64 0, .int .i64 0, .int .i64 0, .int .i64 0, .int .i64 0, .int .i64 0, .int .i64 0, .int .i64 0, .int .i64 0, .int .i64 0, .bool false, .bool false, .bool false, .bool false, .bool false, .bool false, .bool false, .bool false] 94) none) (by simp))
  have G1 := Lib.hid (grown_alloc G0.out (.cells #[.int .i64 0, .int .i64 0, .int .i64 0, .int .i64 0, .int .i64 0, .int .i64 0, .int .i64 0, .int .i64 0, .int .i64 0, .int .i64 0, .int .i64 0, .int .i64 0, .int .i64 0, .int .i64 0, .int .i64 0, .int .i64 0, .int .i64 0, .int .i64 0, .int .i64 0, .int .i64 0, .int .i64 0, .int .i64 0, .int .i64 0, .int .i64 0, .int .i64 0, .int .i64 0, .int .i64 0, .int .i64 0, .int .i64 0, .int .i64 0, .int .i64 0, .int .i64 0, .int .i64 0, .int .i64 0, .int .i64 0, .int .i64 0, .int .i64 0, .int .i64 0, .int .i64 0, .int .i64 0, .int .i64 0, .int .i64 0, .int .i64 0, .int .i64 0, .int .i64 0, .int .i64 0, .int .i64 0, .int .i64 0, .int .i64 0, .bool false, .bool false, .bool false, .bool false, .bool false, .bool false, .bool false, .bool false] 94))
  have ZZ := Lib.hid (SZ.new Wa)
  have ZB : w.heap.size < Wa.heap.size := by omega
  have es : w.heap.size + 1 = Wa.heap.size := Z0.symm
  rw [es]
  clear K0 G0 Z0 es
  generalize Wa.alloc (.cells #[.int .i64 0, .int .i64 0, .int .i64 0, .int .i64 0, .int .i64 0, .int .i64 0, .int .i64 0, .int .i64 0, .int .i64 0, .int .i64 0, .int .i64 0, .int .i64 0, .int .i64 0, .int .i64 0, .int .i64 0, .int .i64 0, .int .i64 0, .int .i64 0, .int .i64 0, .int .i64 0, .int .i64 0, .int .i64 0, .int .i64 0, .int .i64 0, .int .i64 0, .int .i64 0, .int .i64 0, .int .i64 0, .int .i64 0, .int .i64 0, .int .i64 0, .int .i64 0, .int .i64 0, .int .i64 0, .int .i64 0, .int .i64 0, .int .i64 0, .int .i64 0, .int .i64 0, .int .i64 0, .int .i64 0, .int .i64 0, .int .i64 0, .int .i64 0, .int .i64 0, .int .i64 0, .int .i64 0, .int .i64 0, .int .i64 0, .bool false, .bool false, .bool false, .bool false, .bool false, .bool false, .bool false, .bool false] 94) = W1 at *
  generalize Wa.heap.size = gz at *
  obtain ⟨bp, hbp⟩ : ∃ n, n = w.heap.size := ⟨_, rfl⟩
  rw [← hbp] at K1 ⊢
  have HBP := Lib.hid hbp
  have ZP : bp < gz := by omega
  clear hbp
  have k0 := K1.out.cell (i := 0) rfl
  go_wp2_with fail
  refine (implGen k _).mono ?_
  rintro e w1 ⟨L, bk, hL, hbk, hbL, rfl, hg⟩
  have hs := storeNew w1 hL
  have hvl : (vals L).length = 32 := by rw [vals_length]; exact hL
  have G2 := Lib.hid (grown_trans G1.out (grown_alloc hg (.cells (vals L).toArray 87)))
  have K2 := Lib.hid (K1.out.kept (grown_alloc hg (.cells (vals L).toArray 87)) (by simp))
  have ZZ2 := Lib.hid (ZZ.out.still (grown_alloc hg (.cells (vals L).toArray 87)))
  have A2 := Lib.hid (Arr.new w1 87 L)
  have HL := Lib.hid hL
  have BK := Lib.hid hbk
  have BL := Lib.hid hbL
  clear hg hL hbk hbL k0 K1 G1 ZZ
  go_upto_region 2 with fail
  clear hs hvl
  generalize w1.alloc (.cells (vals L).toArray 87) = w2 at *
  generalize w1.heap.size = g at *
  have k1 := K2.out.cell (i := 1) rfl
  go_wp2_with fail
  refine (implShards _ a _ (U.out.grown G2.out)).mono ?_
  rintro e w3 ⟨rfl, hg⟩
  have hA := shOr_len a
  have SR : Hid (shOk a = true → shOr a = a) := Lib.hid (fun h => by simp [shOr, h])
  obtain ⟨A, hAe⟩ : ∃ A, shOr a = A := ⟨_, rfl⟩
  obtain ⟨ba, hba⟩ : ∃ b, shOk a = b := ⟨_, rfl⟩
  have HBA := Lib.hid hba
  rw [hAe] at hA SR ⊢
  rw [hba] at SR ⊢
  have hs := storeS w3 hA
  have hvl : (vals A).length = 8 := by rw [vals_length]; exact hA
  have G4 := Lib.hid (grown_alloc (grown_trans G2.out hg) (.cells (vals A).toArray 89))
  have K4 := Lib.hid (K2.out.kept (grown_alloc hg (.cells (vals A).toArray 89)) (by simp))
  have ZZ4 := Lib.hid (ZZ2.out.still (grown_alloc hg (.cells (vals A).toArray 89)))
  have A4 := Lib.hid ((A2.out.still hg).alloc (.cells (vals A).toArray 89))
  have S4 := Lib.hid (Arr.new w3 89 A)
  have HA := Lib.hid hA
  clear hg A2 G2 hAe hba hA k1 K2 ZZ2
  go_upto_region 3 with fail
  clear hs hvl
  generalize w3.alloc (.cells (vals A).toArray 89) = w4 at *
  generalize w3.heap.size = ga at *
  have k3 := K4.out.cell (i := 3) rfl
  go_wp2_with fail
  refine (implFlags _ f _ (Y.out.grown G4.out)).mono ?_
  rintro e w5 ⟨F, bf, hF, hbf, hbF, rfl, hg⟩
  have hs := storeF w5 hF
  have hvl : (bvals F).length = 8 := by rw [bvals_length]; exact hF
  have G6 := Lib.hid (grown_alloc (grown_trans G4.out hg) (.cells (bvals F).toArray 92))
  have K6 := Lib.hid (K4.out.kept (grown_alloc hg (.cells (bvals F).toArray 92)) (by simp))
  have ZZ6 := Lib.hid (ZZ4.out.still (grown_alloc hg (.cells (bvals F).toArray 92)))
  have A6 := Lib.hid ((A4.out.still hg).alloc (.cells (bvals F).toArray 92))
  have S6 := Lib.hid ((S4.out.still hg).alloc (.cells (bvals F).toArray 92))
  have F6 := Lib.hid (BArr.new w5 92 F)
  have HF := Lib.hid hF
  have BF := Lib.hid hbf
  have BFF := Lib.hid hbF
  clear hg A4 S4 G4 hF hbf hbF k3 K4 ZZ4
  go_upto_region 4 with fail
  clear hs hvl
  generalize w5.alloc (.cells (bvals F).toArray 92) = w6 at *
  generalize w5.heap.size = gf at *
  have k2 := K6.out.cell (i := 2) rfl
  cases bk with
  | false =>
    have NO : Hid (¬ StOk k a v f) := Lib.hid (fun h => by have := BK.out.2 h.kind; cases this)
    go_upto_region 5 with fail
    apply wp_region_lit
    refine wpBuild0 rfl _ rfl _ builtNo ?_
    simp only [Act.put, List.setIfInBounds_toArray, List.set_cons_succ, List.set_cons_zero]
    obtain ⟨old, ho, hz⟩ := ZZ6.out
    refine wpList_store_row rfl _ _ _ rfl gz (stv 0 (List.replicate 32 0) (List.replicate 8 0) (List.replicate 8 0) (List.replicate 8 false)).toArray rfl rfl _ _ ho (infoSt zLen) (by rw [hz, stv_size zLen]) (all_oneCell_toArray stv_one) ?_
    have A3 := Lib.hid (sbRow ho 0 (List.replicate 32 0) (List.replicate 8 0) (List.replicate 8 0) (List.replicate 8 false))
    have G3 := Lib.hid (grown_own G6.out (grownRow ho (stv 0 (List.replicate 32 0) (List.replicate 8 0) (List.replicate 8 0) (List.replicate 8 false)).toArray) (fun j hj => by injection hj with hj; omega))
    clear ho hz
    generalize hcs : (stv 0 (List.replicate 32 0) (List.replicate 8 0) (List.replicate 8 0) (List.replicate 8 false)).toArray = cs at *
    go_wp2_with fail
    subst hcs
    refine bodyPost_ret (v := .tuple #[.agg (stv 0 (List.replicate 32 0) (List.replicate 8 0) (List.replicate 8 0) (List.replicate 8 false)).toArray, .bool false]) ?_ rfl (show OfT _ _ _ _ _ _ _ from ⟨G3.out, _, _, _, _, _, false, rfl, zLen, ⟨fun h => (by cases h), fun h => absurd h NO.out⟩, fun h => (by cases h)⟩)
    exact results_row_slot Try.results60 _ _ gz _ _ _ _ _ rfl rfl A3.out Try.underlying94 rfl (infoSt zLen)
  | true =>
    have kk := BK.out.1 rfl
    obtain ⟨j, rfl, hj⟩ : ∃ j : Nat, k = j ∧ (j = 1 ∨ j = 2) := ⟨k.toNat, by omega, by omega⟩
    obtain rfl : L = grid j := by have := BL.out rfl; simpa using this
    clear kk BK BL
    cases ba with
    | false =>
      have NO : Hid (¬ StOk j a v f) := Lib.hid (fun h => by have := HBA.out; rw [h.sh] at this; cases this)
      go_upto_region 5 with fail
      apply wp_region_lit
      refine wpBuild0 rfl _ rfl _ builtNo ?_
      simp only [Act.put, List.setIfInBounds_toArray, List.set_cons_succ, List.set_cons_zero]
      obtain ⟨old, ho, hz⟩ := ZZ6.out
      refine wpList_store_row rfl _ _ _ rfl gz (stv 0 (List.replicate 32 0) (List.replicate 8 0) (List.replicate 8 0) (List.replicate 8 false)).toArray rfl rfl _ _ ho (infoSt zLen) (by rw [hz, stv_size zLen]) (all_oneCell_toArray stv_one) ?_
      have A3 := Lib.hid (sbRow ho 0 (List.replicate 32 0) (List.replicate 8 0) (List.replicate 8 0) (List.replicate 8 false))
      have G3 := Lib.hid (grown_own G6.out (grownRow ho (stv 0 (List.replicate 32 0) (List.replicate 8 0) (List.replicate 8 0) (List.replicate 8 false)).toArray) (fun j hj => by injection hj with hj; omega))
      clear ho hz
      generalize hcs : (stv 0 (List.replicate 32 0) (List.replicate 8 0) (List.replicate 8 0) (List.replicate 8 false)).toArray = cs at *
      go_wp2_with fail
      subst hcs
      refine bodyPost_ret (v := .tuple #[.agg (stv 0 (List.replicate 32 0) (List.replicate 8 0) (List.replicate 8 0) (List.replicate 8 false)).toArray, .bool false]) ?_ rfl (show OfT _ _ _ _ _ _ _ from ⟨G3.out, _, _, _, _, _, false, rfl, zLen, ⟨fun h => (by cases h), fun h => absurd h NO.out⟩, fun h => (by cases h)⟩)
      exact results_row_slot Try.results60 _ _ gz _ _ _ _ _ rfl rfl A3.out Try.underlying94 rfl (infoSt zLen)
    | true =>
      obtain rfl : A = a := SR.out rfl
      cases bf with
      | false =>
        have NO : Hid (¬ StOk j A v f) := Lib.hid (fun h => by have := BF.out.2 h.f8; cases this)
        go_upto_region 5 with fail
        apply wp_region_lit
        refine wpBuild0 rfl _ rfl _ builtNo ?_
        simp only [Act.put, List.setIfInBounds_toArray, List.set_cons_succ, List.set_cons_zero]
        obtain ⟨old, ho, hz⟩ := ZZ6.out
        refine wpList_store_row rfl _ _ _ rfl gz (stv 0 (List.replicate 32 0) (List.replicate 8 0) (List.replicate 8 0) (List.replicate 8 false)).toArray rfl rfl _ _ ho (infoSt zLen) (by rw [hz, stv_size zLen]) (all_oneCell_toArray stv_one) ?_
        have A3 := Lib.hid (sbRow ho 0 (List.replicate 32 0) (List.replicate 8 0) (List.replicate 8 0) (List.replicate 8 false))
        have G3 := Lib.hid (grown_own G6.out (grownRow ho (stv 0 (List.replicate 32 0) (List.replicate 8 0) (List.replicate 8 0) (List.replicate 8 false)).toArray) (fun j hj => by injection hj with hj; omega))
        clear ho hz
        generalize hcs : (stv 0 (List.replicate 32 0) (List.replicate 8 0) (List.replicate 8 0) (List.replicate 8 false)).toArray = cs at *
        go_wp2_with fail
        subst hcs
        refine bodyPost_ret (v := .tuple #[.agg (stv 0 (List.replicate 32 0) (List.replicate 8 0) (List.replicate 8 0) (List.replicate 8 false)).toArray, .bool false]) ?_ rfl (show OfT _ _ _ _ _ _ _ from ⟨G3.out, _, _, _, _, _, false, rfl, zLen, ⟨fun h => (by cases h), fun h => absurd h NO.out⟩, fun h => (by cases h)⟩)
        exact results_row_slot Try.results60 _ _ gz _ _ _ _ _ rfl rfl A3.out Try.underlying94 rfl (infoSt zLen)
      | true =>
        obtain rfl : F = f := BFF.out rfl
        by_cases h8 : l2 = 8
        · subst h8
          have V8 : Hid (v.length = 8) := Lib.hid NL2.out.symm
          obtain ⟨vb, vo, rfl, hver⟩ : ∃ vb vo, a2 = some ⟨vb, vo, none⟩ ∧ w.rangeAt vb vo (vals v) := by
            rcases R2.out with h | ⟨vb, vo, h1, h2⟩
            · have := V8.out; rw [h] at this; cases this
            · refine ⟨vb, vo, h1, fun i z hz => ?_⟩
              have hi : i < v.length := by have := (List.getElem?_eq_some_iff.1 hz).1; rwa [vals_length] at this
              rw [vals_get _ _ hi] at hz
              rw [h2 i hi]; exact hz
          have HH : Hid (HeldOf bp g ga gf vb vo j [.int .i64 j, .slice a1 l1 c1, .slice (some ⟨vb, vo, none⟩) 8 c2, .slice a3 l3 c3] (grid j) A v F w6.drew) := Lib.hid ⟨K6.out, A6.out.drew, S6.out.drew, F6.out.drew, rangeAt_grown (rangeAt_grown hver G6.out) (grown_drew (World.grownBy.refl w6 none))⟩
          have HJ := Lib.hid hj
          have RA := Lib.hid (shOk_row.1 HBA.out)
          have BU := Lib.hid (builtSt hj HA.out V8.out HF.out)
          have SL : Hid (SLen (grid j) A v F) := Lib.hid ⟨HL.out, HA.out, V8.out, HF.out⟩
          have CL := Lib.hid (fun w => stClean (k := j) SL.out w)
          have FT := Lib.hid (fun hc w => stFits hj RA.out V8.out HF.out hc w)
          have zl : (vals (grid j)).toArray.size = 32 := by simp [vals_length, HL.out]
          have hi : (Try.prog.info? 87).map (·.size) = some (vals (grid j)).toArray.size := by rw [zl]; kernel_rfl
          have zs : (vals A).toArray.size = 8 := by simp [vals_length, HA.out]
          have hj2 : (Try.prog.info? 89).map (·.size) = some (vals A).toArray.size := by rw [zs]; kernel_rfl
          have zf : (bvals F).toArray.size = 8 := by simp [bvals_length, HF.out]
          have hj3 : (Try.prog.info? 92).map (·.size) = some (bvals F).toArray.size := by rw [zf]; kernel_rfl
          have H1 := Lib.hid hi
          have H2 := Lib.hid hj2
          have H3 := Lib.hid hj3
          have H4 := Lib.hid (info8 V8.out)
          have H5 := Lib.hid (infoSt (k := j) SL.out)
          have OKI : Hid (Clean A v F → FitAll j A v F → StOk j A v F) := Lib.hid (fun h1 h2 => ⟨by omega, HBA.out, V8.out, HF.out, h1, by simpa using h2⟩)
          clear hj zl zs zf hi hj2 hj3 BF BFF SR hver
          go_upto_region 6 with fail
          have GD := Lib.hid (grown_drew G6.out)
          have ZD := Lib.hid (ZZ6.out.still (grown_drew (World.grownBy.refl w6 none)))
          clear k2 K6 A6 S6 F6 G6 ZZ6
          refine wp_region_held (S := HeldOf bp g ga gf vb vo j [.int .i64 j, .slice a1 l1 c1, .slice (some ⟨vb, vo, none⟩) 8 c2, .slice a3 l3 c3] (grid j) A v F) (by kernel_rfl) ?_
          refine Rg.take_ 0 (some 46) (.pointer (some ⟨bp, 0, none⟩)) rfl rfl (by kernel_rfl) (by kernel_rfl) (by kernel_rfl) (fun _ _ _ h => h) (.inl ⟨by rfl, fun W' hS => (by go_simp)⟩) HH.out ?_
          simp only [Act.put, List.setIfInBounds_toArray, List.set_cons_zero, List.set_cons_succ]
          refine Rg.take_ 1 (some 47) (.int .i64 j) rfl rfl (by kernel_rfl) (by kernel_rfl) (by kernel_rfl) (fun _ _ _ h => h) (.inl ⟨by rfl, fun W' hS => (by have c := hS.box.cell (i := 0) rfl; go_simp)⟩) HH.out ?_
          simp only [Act.put, List.setIfInBounds_toArray, List.set_cons_zero, List.set_cons_succ]
          refine Rg.take_ 2 (some 48) (.agg (vals (grid j)).toArray) rfl rfl (by kernel_rfl) (by kernel_rfl) (by kernel_rfl) (fun _ _ _ h => h) (Rg.yields_row _ _ rfl rfl g rfl _ _ _ (fun W hS => hS.gen) Try.underlying87 rfl H1.out) HH.out ?_
          simp only [Act.put, List.setIfInBounds_toArray, List.set_cons_zero, List.set_cons_succ]
          refine Rg.take_ 3 (some 49) (.agg (vals A).toArray) rfl rfl (by kernel_rfl) (by kernel_rfl) (by kernel_rfl) (fun _ _ _ h => h) (Rg.yields_row _ _ rfl rfl ga rfl _ _ _ (fun W hS => hS.sh) Try.underlying89 rfl H2.out) HH.out ?_
          simp only [Act.put, List.setIfInBounds_toArray, List.set_cons_zero, List.set_cons_succ]
          refine Rg.take_ 4 (some 50) (.pointer (some ⟨bp, 2, none⟩)) rfl rfl (by kernel_rfl) (by kernel_rfl) (by kernel_rfl) (fun _ _ _ h => h) (.inl ⟨by rfl, fun W' hS => (by go_simp)⟩) HH.out ?_
          simp only [Act.put, List.setIfInBounds_toArray, List.set_cons_zero, List.set_cons_succ]
          refine Rg.take_ 5 (some 51) (.slice (some ⟨vb, vo, none⟩) 8 c2) rfl rfl (by kernel_rfl) (by kernel_rfl) (by kernel_rfl) (fun _ _ _ h => h) (.inl ⟨by rfl, fun W' hS => (by have c := hS.box.cell (i := 2) rfl; go_simp)⟩) HH.out ?_
          simp only [Act.put, List.setIfInBounds_toArray, List.set_cons_zero, List.set_cons_succ]
          refine Rg.take_ 6 (some 52) (.pointer (some ⟨vb, vo, none⟩)) rfl rfl (by kernel_rfl) (by kernel_rfl) (by kernel_rfl) (fun _ _ _ h => h) (.inl ⟨by rfl, fun W' hS => (by have c := arrayAt8 vb vo c2 W'; go_simp)⟩) HH.out ?_
          simp only [Act.put, List.setIfInBounds_toArray, List.set_cons_zero, List.set_cons_succ]
          refine Rg.take_ 7 (some 53) (.agg (vals v).toArray) rfl rfl (by kernel_rfl) (by kernel_rfl) (by kernel_rfl) (fun _ _ _ h => h) (yieldsIf_load_mid rfl _ _ rfl vb vo rfl (vals v) _ (fun W hS => hS.ver) Try.underlying90 rfl H4.out) HH.out ?_
          simp only [Act.put, List.setIfInBounds_toArray, List.set_cons_zero, List.set_cons_succ]
          refine Rg.take_ 8 (some 54) (.agg (bvals F).toArray) rfl rfl (by kernel_rfl) (by kernel_rfl) (by kernel_rfl) (fun _ _ _ h => h) (Rg.yields_row _ _ rfl rfl gf rfl _ _ _ (fun W hS => hS.fl) Try.underlying92 rfl H3.out) HH.out ?_
          simp only [Act.put, List.setIfInBounds_toArray, List.set_cons_zero, List.set_cons_succ]
          refine Rg.take_ 9 (some 55) (.agg (stv j (grid j) A v F).toArray) rfl rfl (by kernel_rfl) (by kernel_rfl) (by kernel_rfl) (fun _ _ _ h => h) (yieldsBuild rfl _ _ rfl _ _ (by rfl) BU.out) HH.out ?_
          simp only [Act.put, List.setIfInBounds_toArray, List.set_cons_zero, List.set_cons_succ]
          refine Rg.ready_one (i := 10) (by kernel_rfl) rfl rfl ?_
          refine Rg.value_at (some 10) (.pointer (some ⟨w6.heap.size, 0, none⟩)) (w6.drew.alloc (.cells #[.int .i64 0, .int .i64 0, .int .i64 0, .int .i64 0, .int .i64 0, .int .i64 0, .int .i64 0, .int .i64 0, .int .i64 0, .int .i64 0, .int .i64 0, .int .i64 0, .int .i64 0, .int .i64 0, .int .i64 0, .int .i64 0, .int .i64 0, .int .i64 0, .int .i64 0, .int .i64 0, .int .i64 0, .int .i64 0, .int .i64 0, .int .i64 0, .int .i64 0, .int .i64 0, .int .i64 0, .int .i64 0, .int .i64 0, .int .i64 0, .int .i64 0, .int .i64 0, .int .i64 0, .int .i64 0, .int .i64 0, .int .i64 0, .int .i64 0, .int .i64 0, .int .i64 0, .int .i64 0, .int .i64 0, .int .i64 0, .int .i64 0, .int .i64 0, .int .i64 0, .int .i64 0, .int .i64 0, .int .i64 0, .int .i64 0, .bool false, .bool false, .bool false, .bool false, .bool false, .bool false, .bool false, .bool false] 94)) rfl (by go_simp) ?_
          have GN := Lib.hid (World.grownBy_alloc w6.drew (.cells #[.int .i64 0, .int .i64 0, .int .i64 0, .int .i64 0, .int .i64 0, .int .i64 0, .int .i64 0, .int .i64 0, .int .i64 0, .int .i64 0, .int .i64 0, .int .i64 0, .int .i64 0, .int .i64 0, .int .i64 0, .int .i64 0, .int .i64 0, .int .i64 0, .int .i64 0, .int .i64 0, .int .i64 0, .int .i64 0, .int .i64 0, .int .i64 0, .int .i64 0, .int .i64 0, .int .i64 0, .int .i64 0, .int .i64 0, .int .i64 0, .int .i64 0, .int .i64 0, .int .i64 0, .int .i64 0, .int .i64 0, .int .i64 0, .int .i64 0, .int .i64 0, .int .i64 0, .int .i64 0, .int .i64 0, .int .i64 0, .int .i64 0, .int .i64 0, .int .i64 0, .int .i64 0, .int .i64 0, .int .i64 0, .int .i64 0, .bool false, .bool false, .bool false, .bool false, .bool false, .bool false, .bool false, .bool false] 94) none)
          have HH2 := Lib.hid (HH.out.still GN.out)
          have ZN : Hid (SZ (w6.drew.alloc (.cells #[.int .i64 0, .int .i64 0, .int .i64 0, .int .i64 0, .int .i64 0, .int .i64 0, .int .i64 0, .int .i64 0, .int .i64 0, .int .i64 0, .int .i64 0, .int .i64 0, .int .i64 0, .int .i64 0, .int .i64 0, .int .i64 0, .int .i64 0, .int .i64 0, .int .i64 0, .int .i64 0, .int .i64 0, .int .i64 0, .int .i64 0, .int .i64 0, .int .i64 0, .int .i64 0, .int .i64 0, .int .i64 0, .int .i64 0, .int .i64 0, .int .i64 0, .int .i64 0, .int .i64 0, .int .i64 0, .int .i64 0, .int .i64 0, .int .i64 0, .int .i64 0, .int .i64 0, .int .i64 0, .int .i64 0, .int .i64 0, .int .i64 0, .int .i64 0, .int .i64 0, .int .i64 0, .int .i64 0, .int .i64 0, .int .i64 0, .bool false, .bool false, .bool false, .bool false, .bool false, .bool false, .bool false, .bool false] 94)) w6.heap.size) := Lib.hid (SZ.new w6.drew)
          have ZD2 := Lib.hid (ZD.out.still GN.out)
          have LZ : gz < w6.heap.size := ZD.out.lt
          have WZ : w.heap.size ≤ w6.heap.size := GD.out.size
          refine ⟨HH2.out, ?_⟩
          simp only [Act.put, List.setIfInBounds_toArray, List.set_cons_zero, List.set_cons_succ]
          generalize hw7 : w6.drew.alloc (.cells #[.int .i64 0, .int .i64 0, .int .i64 0, .int .i64 0, .int .i64 0, .int .i64 0, .int .i64 0, .int .i64 0, .int .i64 0, .int .i64 0, .int .i64 0, .int .i64 0, .int .i64 0, .int .i64 0, .int .i64 0, .int .i64 0, .int .i64 0, .int .i64 0, .int .i64 0, .int .i64 0, .int .i64 0, .int .i64 0, .int .i64 0, .int .i64 0, .int .i64 0, .int .i64 0, .int .i64 0, .int .i64 0, .int .i64 0, .int .i64 0, .int .i64 0, .int .i64 0, .int .i64 0, .int .i64 0, .int .i64 0, .int .i64 0, .int .i64 0, .int .i64 0, .int .i64 0, .int .i64 0, .int .i64 0, .int .i64 0, .int .i64 0, .int .i64 0, .int .i64 0, .int .i64 0, .int .i64 0, .int .i64 0, .int .i64 0, .bool false, .bool false, .bool false, .bool false, .bool false, .bool false, .bool false, .bool false] 94) = w7 at *
          have DS : w6.drew.heap.size = w6.heap.size := rfl
          refine Rg.ready_one (i := 11) (by kernel_rfl) rfl rfl ?_
          obtain ⟨old, ho, hz⟩ := ZN.out
          refine storeAt none 94 _ _ rfl rfl w6.heap.size (stv j (grid j) A v F).toArray rfl rfl _ _ ho H5.out (by rw [hz, stv_size SL.out]) (all_oneCell_toArray stv_one) ?_
          have S8 := Lib.hid (sbRow ho j (grid j) A v F)
          have gr := grownRow ho (stv j (grid j) A v F).toArray
          have ga8 := grown_own GN.out gr (fun i hi => by injection hi with hi; omega)
          have HH8 := Lib.hid (HH.out.still ga8)
          have G8 := Lib.hid (grown_trans GD.out ga8)
          have ZZ8 := Lib.hid (ZD2.out.kept gr (by simp; omega))
          clear ho hz gr ga8 HH HH2 ZN ZD ZD2 GN GD hw7
          refine ⟨HH8.out, ?_⟩
          simp only [Act.put, List.setIfInBounds_toArray]
          generalize w7.setRow w6.heap.size (stv j (grid j) A v F).toArray = w8 at *
          generalize w6.heap.size = gs at *
          clear HH8
          refine wpAnyH_done (by kernel_rfl) ?_ _
          have H5' := H5.out
          go_upto_region 7 with fail
          apply wp_region_lit
          refine wpList_load_row rfl _ _ rfl gs rfl _ _ _ _ S8.out Try.underlying94 rfl H5' ?_
          simp only [Act.put, List.setIfInBounds_toArray, List.set_cons_succ, List.set_cons_zero]
          clear H5'
          go_wp2_with fail
          refine (CL.out _).mono ?_
          rintro e w9 ⟨q, rfl, hq, hg⟩
          have Q9 := Lib.hid hq
          have G9 := Lib.hid (grown_trans G8.out hg)
          have S9 := Lib.hid (S8.out.still hg)
          have ZZ9 := Lib.hid (ZZ8.out.still hg)
          clear hq hg G8 S8 ZZ8
          cases q with
          | false =>
            have NO : Hid (¬ StOk j A v F) := Lib.hid (fun h => by have := Q9.out.2 h.clean; cases this)
            go_upto_region 8 with fail
            apply wp_region_lit
            refine wpBuild0 rfl _ rfl _ builtNo ?_
            simp only [Act.put, List.setIfInBounds_toArray, List.set_cons_succ, List.set_cons_zero]
            obtain ⟨old, ho, hz⟩ := ZZ9.out
            refine wpList_store_row rfl _ _ _ rfl gz (stv 0 (List.replicate 32 0) (List.replicate 8 0) (List.replicate 8 0) (List.replicate 8 false)).toArray rfl rfl _ _ ho (infoSt zLen) (by rw [hz, stv_size zLen]) (all_oneCell_toArray stv_one) ?_
            have A3 := Lib.hid (sbRow ho 0 (List.replicate 32 0) (List.replicate 8 0) (List.replicate 8 0) (List.replicate 8 false))
            have G3 := Lib.hid (grown_own G9.out (grownRow ho (stv 0 (List.replicate 32 0) (List.replicate 8 0) (List.replicate 8 0) (List.replicate 8 false)).toArray) (fun j hj => by injection hj with hj; omega))
            clear ho hz
            generalize hcs : (stv 0 (List.replicate 32 0) (List.replicate 8 0) (List.replicate 8 0) (List.replicate 8 false)).toArray = cs at *
            go_wp2_with fail
            subst hcs
            refine bodyPost_ret (v := .tuple #[.agg (stv 0 (List.replicate 32 0) (List.replicate 8 0) (List.replicate 8 0) (List.replicate 8 false)).toArray, .bool false]) ?_ rfl (show OfT _ _ _ _ _ _ _ from ⟨G3.out, _, _, _, _, _, false, rfl, zLen, ⟨fun h => (by cases h), fun h => absurd h NO.out⟩, fun h => (by cases h)⟩)
            exact results_row_slot Try.results60 _ _ gz _ _ _ _ _ rfl rfl A3.out Try.underlying94 rfl (infoSt zLen)
          | true =>
            have HC := Lib.hid (Q9.out.1 rfl)
            clear Q9
            rename_i hK
            refine hK _ _ ?_
            clear hK
            refine wpList_plain rfl (fun K hK => ?_)
            go_simp
            refine hK _ _ ?_
            clear hK
            refine wpList_plain rfl (fun K hK => ?_)
            go_simp
            refine hK _ _ ?_
            clear hK
            go_guarded
            rename_i hK
            refine wp_load_row _ _ rfl gs rfl _ _ _ _ S9.out Try.underlying94 rfl H5.out (hK _ _ ?_)
            clear hK
            simp only [Act.put, List.setIfInBounds_toArray, List.set_cons_succ, List.set_cons_zero]
            go_wp2_with fail
            refine (FT.out HC.out _).mono ?_
            rintro e wa ⟨q, rfl, hq, hg⟩
            have Qa := Lib.hid hq
            have Ga := Lib.hid (grown_trans G9.out hg)
            have Sa := Lib.hid (S9.out.still hg)
            have ZZa := Lib.hid (ZZ9.out.still hg)
            clear hq hg G9 S9 ZZ9
            cases q with
            | false =>
              have NO : Hid (¬ StOk j A v F) := Lib.hid (fun h => by have := Qa.out.2 (by simpa using h.fit); cases this)
              go_upto_region 8 with fail
              apply wp_region_lit
              refine wpBuild0 rfl _ rfl _ builtNo ?_
              simp only [Act.put, List.setIfInBounds_toArray, List.set_cons_succ, List.set_cons_zero]
              obtain ⟨old, ho, hz⟩ := ZZa.out
              refine wpList_store_row rfl _ _ _ rfl gz (stv 0 (List.replicate 32 0) (List.replicate 8 0) (List.replicate 8 0) (List.replicate 8 false)).toArray rfl rfl _ _ ho (infoSt zLen) (by rw [hz, stv_size zLen]) (all_oneCell_toArray stv_one) ?_
              have A3 := Lib.hid (sbRow ho 0 (List.replicate 32 0) (List.replicate 8 0) (List.replicate 8 0) (List.replicate 8 false))
              have G3 := Lib.hid (grown_own Ga.out (grownRow ho (stv 0 (List.replicate 32 0) (List.replicate 8 0) (List.replicate 8 0) (List.replicate 8 false)).toArray) (fun j hj => by injection hj with hj; omega))
              clear ho hz
              generalize hcs : (stv 0 (List.replicate 32 0) (List.replicate 8 0) (List.replicate 8 0) (List.replicate 8 false)).toArray = cs at *
              go_wp2_with fail
              subst hcs
              refine bodyPost_ret (v := .tuple #[.agg (stv 0 (List.replicate 32 0) (List.replicate 8 0) (List.replicate 8 0) (List.replicate 8 false)).toArray, .bool false]) ?_ rfl (show OfT _ _ _ _ _ _ _ from ⟨G3.out, _, _, _, _, _, false, rfl, zLen, ⟨fun h => (by cases h), fun h => absurd h NO.out⟩, fun h => (by cases h)⟩)
              exact results_row_slot Try.results60 _ _ gz _ _ _ _ _ rfl rfl A3.out Try.underlying94 rfl (infoSt zLen)
            | true =>
              have OK := Lib.hid (OKI.out HC.out (Qa.out.1 rfl))
              go_upto_region 9 with fail
              apply wp_region_lit
              refine wpList_load_row rfl _ _ rfl gs rfl _ _ _ _ Sa.out Try.underlying94 rfl H5.out ?_
              simp only [Act.put, List.setIfInBounds_toArray, List.set_cons_succ, List.set_cons_zero]
              obtain ⟨old, ho, hz⟩ := ZZa.out
              refine wpList_store_row rfl _ _ _ rfl gz (stv j (grid j) A v F).toArray rfl rfl _ _ ho H5.out (by rw [hz, stv_size SL.out]) (all_oneCell_toArray stv_one) ?_
              have A3 := Lib.hid (sbRow ho j (grid j) A v F)
              have G3 := Lib.hid (grown_own Ga.out (grownRow ho (stv j (grid j) A v F).toArray) (fun i hi => by injection hi with hi; omega))
              clear ho hz
              generalize hcs : (stv j (grid j) A v F).toArray = cs at *
              go_wp2_with fail
              subst hcs
              refine bodyPost_ret (v := .tuple #[.agg (stv j (grid j) A v F).toArray, .bool true]) ?_ rfl (show OfT _ _ _ _ _ _ _ from ⟨G3.out, _, _, _, _, _, true, rfl, SL.out, ⟨fun _ => OK.out, fun _ => rfl⟩, fun _ => ⟨rfl, by simp, rfl, rfl, rfl⟩⟩)
              exact results_row_slot Try.results60 _ _ gz _ _ _ _ _ rfl rfl A3.out Try.underlying94 rfl H5.out
        · have NO : Hid (¬ StOk j A v F) := Lib.hid (fun h => h8 (by rw [NL2.out]; exact h.v8))
          have hb : ((l2 : Int) != 8) = true := by rw [bne_iff_ne]; omega
          clear h8
          go_upto_region 5 with fail
          apply wp_region_lit
          refine wpBuild0 rfl _ rfl _ builtNo ?_
          simp only [Act.put, List.setIfInBounds_toArray, List.set_cons_succ, List.set_cons_zero]
          obtain ⟨old, ho, hz⟩ := ZZ6.out
          refine wpList_store_row rfl _ _ _ rfl gz (stv 0 (List.replicate 32 0) (List.replicate 8 0) (List.replicate 8 0) (List.replicate 8 false)).toArray rfl rfl _ _ ho (infoSt zLen) (by rw [hz, stv_size zLen]) (all_oneCell_toArray stv_one) ?_
          have A3 := Lib.hid (sbRow ho 0 (List.replicate 32 0) (List.replicate 8 0) (List.replicate 8 0) (List.replicate 8 false))
          have G3 := Lib.hid (grown_own G6.out (grownRow ho (stv 0 (List.replicate 32 0) (List.replicate 8 0) (List.replicate 8 0) (List.replicate 8 false)).toArray) (fun j hj => by injection hj with hj; omega))
          clear ho hz
          generalize hcs : (stv 0 (List.replicate 32 0) (List.replicate 8 0) (List.replicate 8 0) (List.replicate 8 false)).toArray = cs at *
          go_wp2_with fail
          subst hcs
          refine bodyPost_ret (v := .tuple #[.agg (stv 0 (List.replicate 32 0) (List.replicate 8 0) (List.replicate 8 0) (List.replicate 8 false)).toArray, .bool false]) ?_ rfl (show OfT _ _ _ _ _ _ _ from ⟨G3.out, _, _, _, _, _, false, rfl, zLen, ⟨fun h => (by cases h), fun h => absurd h NO.out⟩, fun h => (by cases h)⟩)
          exact results_row_slot Try.results60 _ _ gz _ _ _ _ _ rfl rfl A3.out Try.underlying94 rfl (infoSt zLen)
end Go.Proofs.Ythglkgicckodaaa
