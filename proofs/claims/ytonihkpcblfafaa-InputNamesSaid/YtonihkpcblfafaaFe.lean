/-
  Clean, followed in the evaluator. Nothing is claimed here.
-/
import Derived.Test.YtonihkpcblfafaaFb
import Derived.Test.YtonihkpcblfafaaVt
namespace Go.Proofs.Ytonihkpcblfafaa
open Go.Vm Go.Lay1
variable {n : Nat}

theorem zero5 : zeroOf Try.prog 5 = some (.i .u8 0) := by kernel_rfl
theorem fits5 : zeroFits Try.prog 5 1 = true := by kernel_rfl
theorem info5s : (Try.prog.info? 5).map (fun t => (t.size, t.bytes)) = some (1, 1) := by kernel_rfl
theorem info5 : ∃ ti, Try.prog.info? 5 = some ti ∧ ti.size = 1 ∧ ti.bytes = 1 := by
  have h := info5s
  cases e : Try.prog.info? 5 with
  | none => rw [e] at h; cases h
  | some ti => rw [e] at h; simp only [Option.map_some, Option.some.injEq, Prod.mk.injEq] at h; exact ⟨ti, rfl, h.1, h.2⟩

theorem clean_ev (s : List UInt8) (hs : s.length ≤ 4000) (st : St) (hn : s.length + 150 ≤ n) : Ev Try.prog ov1 0 n 11 [(V.str (s))] st (fun v st' => v = .t [V.str (cleaned s), .i .i64 0] ∧ Sub st.nx st st') := by
  obtain ⟨m, rfl⟩ : ∃ m, n = m + 60 := ⟨n - 60, by omega⟩
  have hS := Sub.refl st.nx st
  refine Ev.enter rfl Try.func11 rfl rfl rfl (frame1 _) ?_
  refine Wp.seq ?_
  refine Wp.region rfl ?_
  refine Ops.val (Val.assign (show opnd _ _ = some (V.str ([] : List UInt8)) from rfl)) rfl ?_
  refine Ops.val (Val.assign rfl) rfl ?_
  refine Ops.nil ?_
  refine Wp.seq ?_
  refine Wp.seq ?_
  refine Wp.region rfl ?_
  refine Ops.val (Val.move (T.get_skip rfl (T.get_skip rfl T.get_same))) rfl ?_
  refine Ops.val (Val.slen Try.underlying9 T.get_same) rfl ?_
  refine Ops.val (Val.gtr T.get_same rfl) rfl ?_
  refine Ops.nil ?_
  refine Wp.cond T.get_same (fun hc1 => ?_) (fun hc1 => ?_)
  · skip
    have p2 := of_decide_eq_true hc1
    exact absurd p2 (by omega)
  · skip
    have p3 := of_decide_eq_false hc1
    refine Wp.skip ?_
    refine Wp.seq ?_
    refine Wp.region rfl ?_
    refine Ops.val (Val.move (T.get_skip rfl (T.get_skip rfl (T.get_skip rfl (T.get_skip rfl (T.get_skip rfl T.get_same)))))) rfl ?_
    refine Ops.val (Val.slen Try.underlying9 T.get_same) rfl ?_
    refine Ops.mem (Do.make Try.underlying22 info5 zero5 rfl T.get_same (by omega)) rfl ?_
    rintro v5 st4 ⟨hU, hS2⟩
    have hS := hS.then hS2 (Nat.le_refl _)
    refine Ops.val (Val.assign T.get_same) rfl ?_
    refine Ops.nil ?_
    refine Wp.seq ?_
    refine Wp.seq ?_
    refine Wp.region rfl ?_
    refine Ops.val (Val.assign rfl) rfl ?_
    refine Ops.nil ?_
    refine Wp.block ?_
    refine Wp.rebase (fun fr6 hF7 => ?_)
    have g8 := (hF7 0).trans (T.get_skip rfl (T.get_skip rfl (T.get_skip rfl (T.get_skip rfl (T.get_skip rfl (T.get_skip rfl (T.get_skip rfl (T.get_skip rfl (T.get_skip rfl (T.get_skip rfl T.get_same))))))))))
    have g9 := (hF7 2).trans (T.get_skip rfl (T.get_skip rfl (T.get_skip rfl (T.get_skip rfl (T.get_skip rfl (T.get_skip rfl (T.get_skip rfl (T.get_skip rfl (T.get_skip rfl T.get_same)))))))))
    have g10 := (hF7 3).trans (T.get_skip rfl (T.get_skip rfl (T.get_skip rfl (T.get_skip rfl (T.get_skip rfl (T.get_skip rfl (T.get_skip rfl (T.get_skip rfl T.get_same))))))))
    have g11 := (hF7 6).trans (T.get_skip rfl (T.get_skip rfl (T.get_skip rfl (T.get_skip rfl (T.get_skip rfl (T.get_skip rfl (T.get_skip rfl T.get_same)))))))
    have g12 := (hF7 7).trans (T.get_skip rfl (T.get_skip rfl (T.get_skip rfl (T.get_skip rfl (T.get_skip rfl (T.get_skip rfl T.get_same))))))
    have g13 := (hF7 8).trans (T.get_skip rfl (T.get_skip rfl (T.get_skip rfl (T.get_skip rfl (T.get_skip rfl T.get_same)))))
    have g14 := (hF7 9).trans (T.get_skip rfl (T.get_skip rfl (T.get_skip rfl (T.get_skip rfl T.get_same))))
    have g15 := (hF7 10).trans (T.get_skip rfl (T.get_skip rfl (T.get_skip rfl T.get_same)))
    have g16 := (hF7 11).trans (T.get_skip rfl (T.get_skip rfl T.get_same))
    refine Wp.loop (I := fun mm fr sx => ∃ (i : Nat) (v : V), (i ≤ s.length) ∧ mm = s.length - i ∧ fr.get 5 = some (.i .i64 ((i : Int))) ∧ fr.get 4 = some (v) ∧ (∀ t, [4, 5, 12, 13, 14, 15, 16, 17, 18, 19, 20, 21, 22, 23, 24, 25, 26, 27, 28, 29, 30, 31, 32, 33, 34, 35, 36, 37, 38, 39, 40, 41, 42, 43, 44, 45, 46].elem t = false → fr.get t = fr6.get t) ∧ (Buf st.nx sx v (cl s i) ∧ Sub st.nx st sx)) s.length (by omega) ⟨0, _, (by omega), rfl, (hF7 5).trans T.get_same, (hF7 4).trans (T.get_skip rfl T.get_same), fun t _ => rfl, ⟨hU, hS⟩⟩ (fun mm fr sx hI => ?_)
    obtain ⟨i, v, hi, rfl, g17, g18, hW19, ⟨hU, hS⟩⟩ := hI
    have hcl := cl_len s i
    refine Wp.seq ?_
    refine Wp.seq ?_
    refine Wp.region rfl ?_
    refine Ops.val (Val.move g17) rfl ?_
    refine Ops.val (Val.move (T.get_skip rfl ((hW19 0 rfl).trans g8))) rfl ?_
    refine Ops.val (Val.slen Try.underlying9 T.get_same) rfl ?_
    refine Ops.val (Val.lss (T.get_skip rfl (T.get_skip rfl T.get_same)) T.get_same) rfl ?_
    refine Ops.nil ?_
    refine Wp.cond T.get_same (fun hc20 => ?_) (fun hc20 => ?_)
    · skip
      have p21 := of_decide_eq_true hc20
      refine Wp.skip ?_
      refine Wp.seq ?_
      refine Wp.block ?_
      refine Wp.seq ?_
      refine Wp.region rfl ?_
      refine Ops.val (Val.move (T.get_skip rfl (T.get_skip rfl (T.get_skip rfl (T.get_skip rfl ((hW19 0 rfl).trans g8)))))) rfl ?_
      refine Ops.val (Val.move (T.get_skip rfl (T.get_skip rfl (T.get_skip rfl (T.get_skip rfl (T.get_skip rfl g17)))))) rfl ?_
      refine Ops.val (Val.sidx (i := i) Try.underlying9 (T.get_skip rfl T.get_same) T.get_same (by omega)) rfl ?_
      refine Ops.nil ?_
      refine Wp.block ?_
      refine Wp.seq ?_
      refine Wp.region rfl ?_
      refine Ops.val (Val.ieql T.get_same rfl) rfl ?_
      refine Ops.val (Val.assign T.get_same) rfl ?_
      refine Ops.nil ?_
      refine Wp.cond T.get_same (fun hc22 => ?_) (fun hc22 => ?_)
      · skip
        have p23 := of_decide_eq_true hc22
        refine Wp.region rfl ?_
        refine Ops.val (Val.move (T.get_skip rfl (T.get_skip rfl (T.get_skip rfl (T.get_skip rfl (T.get_skip rfl (T.get_skip rfl (T.get_skip rfl (T.get_skip rfl (T.get_skip rfl g18)))))))))) rfl ?_
        refine Ops.mem (Do.append (new := ([239, 191, 189] : List UInt8)) Try.underlying22 info5 fits5 Try.underlying9 (fun _ q => by cases q) T.get_same (show opnd _ _ = some (V.str ([239, 191, 189] : List UInt8)) from rfl) hU (Nat.zero_le _) hS.nx rfl (first_str _ _) (by first | omega | (simp; omega))) rfl ?_
        rintro v25 st24 ⟨hU, hS2⟩
        have hS := hS.trans hS2
        refine Ops.val (Val.assign T.get_same) rfl ?_
        refine Ops.nil ?_
        refine Wp.region rfl ?_
        refine Ops.val (Val.move (T.get_skip rfl (T.get_skip rfl (T.get_skip rfl (T.get_skip rfl (T.get_skip rfl (T.get_skip rfl (T.get_skip rfl (T.get_skip rfl (T.get_skip rfl (T.get_skip rfl (T.get_skip rfl (T.get_skip rfl g17))))))))))))) rfl ?_
        refine Ops.val (Val.iadd T.get_same rfl (c := ((i : Int) + 1)) (wrap64 (by omega) (by omega))) rfl ?_
        refine Ops.val (Val.assign T.get_same) rfl ?_
        refine Ops.nil ?_
        exact ⟨_, (by omega), i + 1, _, (by omega), rfl, T.get_same, (T.get_skip rfl (T.get_skip rfl (T.get_skip rfl T.get_same))), fun t ht => (T.get_skip (el ht rfl) (T.get_skip (el ht rfl) (T.get_skip (el ht rfl) (T.get_skip (el ht rfl) (T.get_skip (el ht rfl) (T.get_skip (el ht rfl) (T.get_skip (el ht rfl) (T.get_skip (el ht rfl) (T.get_skip (el ht rfl) (T.get_skip (el ht rfl) (T.get_skip (el ht rfl) (T.get_skip (el ht rfl) (T.get_skip (el ht rfl) (T.get_skip (el ht rfl) (T.get_skip (el ht rfl) (hW19 t ht)))))))))))))))), ⟨(by first | (rw [cl_nul (s := s) (i := i) (by omega)]; exact hU) | (rw [cl_ff (s := s) (i := i) (by omega)]; exact hU) | (rw [cl_other (s := s) (i := i) (by omega) (by omega) (by omega)]; exact hU) | (rw [cl_cr (s := s) (i := i) (by omega) (by assumption)]; exact hU) | (rw [cl_crlf (s := s) (i := i) (by omega) ⟨by assumption, by assumption⟩]; exact hU)), hS⟩⟩
      · skip
        have p26 := of_decide_eq_false hc22
        refine Wp.seq ?_
        refine Wp.region rfl ?_
        refine Ops.val (Val.ieql (T.get_skip rfl (T.get_skip rfl T.get_same)) rfl) rfl ?_
        refine Ops.val (Val.assign T.get_same) rfl ?_
        refine Ops.nil ?_
        refine Wp.cond T.get_same (fun hc27 => ?_) (fun hc27 => ?_)
        · skip
          have p28 := of_decide_eq_true hc27
          refine Wp.region rfl ?_
          refine Ops.val (Val.move (T.get_skip rfl (T.get_skip rfl (T.get_skip rfl (T.get_skip rfl (T.get_skip rfl (T.get_skip rfl (T.get_skip rfl (T.get_skip rfl (T.get_skip rfl (T.get_skip rfl (T.get_skip rfl g18)))))))))))) rfl ?_
          refine Ops.mem (Do.build1 (c := (10 : UInt8)) Try.underlying22 size5 zero5 rfl) rfl ?_
          rintro _ st29 ⟨rfl, hV, hS2, -⟩
          have hU := hU.keep hS2
          have hS := hS.then hS2 (Nat.le_refl _)
          refine Ops.mem (Do.append (new := [(10 : UInt8)]) Try.underlying22 info5 fits5 Try.underlying22 (fun _ q => by cases q) (T.get_skip rfl T.get_same) T.get_same hU (Nat.zero_le _) hS.nx rfl hV (by first | omega | (simp; omega))) rfl ?_
          rintro v31 st30 ⟨hU, hS2⟩
          have hS := hS.trans hS2
          refine Ops.val (Val.assign T.get_same) rfl ?_
          refine Ops.nil ?_
          refine Wp.region rfl ?_
          refine Ops.val (Val.move (T.get_skip rfl (T.get_skip rfl (T.get_skip rfl (T.get_skip rfl (T.get_skip rfl (T.get_skip rfl (T.get_skip rfl (T.get_skip rfl (T.get_skip rfl (T.get_skip rfl (T.get_skip rfl (T.get_skip rfl (T.get_skip rfl (T.get_skip rfl (T.get_skip rfl g17)))))))))))))))) rfl ?_
          refine Ops.val (Val.iadd T.get_same rfl (c := ((i : Int) + 1)) (wrap64 (by omega) (by omega))) rfl ?_
          refine Ops.val (Val.assign T.get_same) rfl ?_
          refine Ops.nil ?_
          exact ⟨_, (by omega), i + 1, _, (by omega), rfl, T.get_same, (T.get_skip rfl (T.get_skip rfl (T.get_skip rfl T.get_same))), fun t ht => (T.get_skip (el ht rfl) (T.get_skip (el ht rfl) (T.get_skip (el ht rfl) (T.get_skip (el ht rfl) (T.get_skip (el ht rfl) (T.get_skip (el ht rfl) (T.get_skip (el ht rfl) (T.get_skip (el ht rfl) (T.get_skip (el ht rfl) (T.get_skip (el ht rfl) (T.get_skip (el ht rfl) (T.get_skip (el ht rfl) (T.get_skip (el ht rfl) (T.get_skip (el ht rfl) (T.get_skip (el ht rfl) (T.get_skip (el ht rfl) (T.get_skip (el ht rfl) (T.get_skip (el ht rfl) (hW19 t ht))))))))))))))))))), ⟨(by first | (rw [cl_nul (s := s) (i := i) (by omega)]; exact hU) | (rw [cl_ff (s := s) (i := i) (by omega)]; exact hU) | (rw [cl_other (s := s) (i := i) (by omega) (by omega) (by omega)]; exact hU) | (rw [cl_cr (s := s) (i := i) (by omega) (by assumption)]; exact hU) | (rw [cl_crlf (s := s) (i := i) (by omega) ⟨by assumption, by assumption⟩]; exact hU)), hS⟩⟩
        · skip
          have p32 := of_decide_eq_false hc27
          refine Wp.seq ?_
          refine Wp.region rfl ?_
          refine Ops.val (Val.ieql (T.get_skip rfl (T.get_skip rfl (T.get_skip rfl (T.get_skip rfl T.get_same)))) rfl) rfl ?_
          refine Ops.val (Val.assign T.get_same) rfl ?_
          refine Ops.nil ?_
          refine Wp.cond T.get_same (fun hc33 => ?_) (fun hc33 => ?_)
          · skip
            have p34 := of_decide_eq_true hc33
            refine Wp.seq ?_
            refine Wp.region rfl ?_
            refine Ops.val (Val.move (T.get_skip rfl (T.get_skip rfl (T.get_skip rfl (T.get_skip rfl (T.get_skip rfl (T.get_skip rfl (T.get_skip rfl (T.get_skip rfl (T.get_skip rfl (T.get_skip rfl (T.get_skip rfl (T.get_skip rfl (T.get_skip rfl ((hW19 0 rfl).trans g8))))))))))))))) rfl ?_
            refine Ops.val (Val.move (T.get_skip rfl (T.get_skip rfl (T.get_skip rfl (T.get_skip rfl (T.get_skip rfl (T.get_skip rfl (T.get_skip rfl (T.get_skip rfl (T.get_skip rfl (T.get_skip rfl (T.get_skip rfl (T.get_skip rfl (T.get_skip rfl (T.get_skip rfl g17))))))))))))))) rfl ?_
            refine Ops.val (Val.iadd T.get_same rfl (c := ((i : Int) + 1)) (wrap64 (by omega) (by omega))) rfl ?_
            refine Ops.val (Val.sslF (l := (i + 1)) Try.underlying9 (T.get_skip rfl (T.get_skip rfl T.get_same)) T.get_same (by omega)) rfl ?_
            refine Ops.call (opndsC T.get_same opnds0) rfl (startsEnd_ev _ _ (by omega)) ?_
            rintro _ _ ⟨rfl, hq⟩
            obtain rfl := Eq.symm hq
            refine Ops.val (Val.not T.get_same) rfl ?_
            refine Ops.nil ?_
            refine Wp.cond T.get_same (fun hc35 => ?_) (fun hc35 => ?_)
            · skip
              have p37 : ¬ (((0 : Int) < ((s.drop (i + 1)).length : Int)) ∧ ((((s.drop (i + 1)).getD 0 0).toNat : Int) = 10)) := andF iffD iffD (notB hc35)
              refine Wp.region rfl ?_
              refine Ops.val (Val.move (T.get_skip rfl (T.get_skip rfl (T.get_skip rfl (T.get_skip rfl (T.get_skip rfl (T.get_skip rfl (T.get_skip rfl (T.get_skip rfl (T.get_skip rfl (T.get_skip rfl (T.get_skip rfl (T.get_skip rfl (T.get_skip rfl (T.get_skip rfl (T.get_skip rfl (T.get_skip rfl (T.get_skip rfl (T.get_skip rfl (T.get_skip rfl g18)))))))))))))))))))) rfl ?_
              refine Ops.mem (Do.build1 (c := (10 : UInt8)) Try.underlying22 size5 zero5 rfl) rfl ?_
              rintro _ st38 ⟨rfl, hV, hS2, -⟩
              have hU := hU.keep hS2
              have hS := hS.then hS2 (Nat.le_refl _)
              refine Ops.mem (Do.append (new := [(10 : UInt8)]) Try.underlying22 info5 fits5 Try.underlying22 (fun _ q => by cases q) (T.get_skip rfl T.get_same) T.get_same hU (Nat.zero_le _) hS.nx rfl hV (by first | omega | (simp; omega))) rfl ?_
              rintro v40 st39 ⟨hU, hS2⟩
              have hS := hS.trans hS2
              refine Ops.val (Val.assign T.get_same) rfl ?_
              refine Ops.nil ?_
              refine Wp.region rfl ?_
              refine Ops.val (Val.move (T.get_skip rfl (T.get_skip rfl (T.get_skip rfl (T.get_skip rfl (T.get_skip rfl (T.get_skip rfl (T.get_skip rfl (T.get_skip rfl (T.get_skip rfl (T.get_skip rfl (T.get_skip rfl (T.get_skip rfl (T.get_skip rfl (T.get_skip rfl (T.get_skip rfl (T.get_skip rfl (T.get_skip rfl (T.get_skip rfl (T.get_skip rfl (T.get_skip rfl (T.get_skip rfl (T.get_skip rfl (T.get_skip rfl g17)))))))))))))))))))))))) rfl ?_
              refine Ops.val (Val.iadd T.get_same rfl (c := ((i : Int) + 1)) (wrap64 (by omega) (by omega))) rfl ?_
              refine Ops.val (Val.assign T.get_same) rfl ?_
              refine Ops.nil ?_
              exact ⟨_, (by omega), i + 1, _, (by omega), rfl, T.get_same, (T.get_skip rfl (T.get_skip rfl (T.get_skip rfl T.get_same))), fun t ht => (T.get_skip (el ht rfl) (T.get_skip (el ht rfl) (T.get_skip (el ht rfl) (T.get_skip (el ht rfl) (T.get_skip (el ht rfl) (T.get_skip (el ht rfl) (T.get_skip (el ht rfl) (T.get_skip (el ht rfl) (T.get_skip (el ht rfl) (T.get_skip (el ht rfl) (T.get_skip (el ht rfl) (T.get_skip (el ht rfl) (T.get_skip (el ht rfl) (T.get_skip (el ht rfl) (T.get_skip (el ht rfl) (T.get_skip (el ht rfl) (T.get_skip (el ht rfl) (T.get_skip (el ht rfl) (T.get_skip (el ht rfl) (T.get_skip (el ht rfl) (T.get_skip (el ht rfl) (T.get_skip (el ht rfl) (T.get_skip (el ht rfl) (T.get_skip (el ht rfl) (T.get_skip (el ht rfl) (T.get_skip (el ht rfl) (hW19 t ht))))))))))))))))))))))))))), ⟨(by first | (rw [cl_nul (s := s) (i := i) (by omega)]; exact hU) | (rw [cl_ff (s := s) (i := i) (by omega)]; exact hU) | (rw [cl_other (s := s) (i := i) (by omega) (by omega) (by omega)]; exact hU) | (rw [cl_cr (s := s) (i := i) (by omega) (by assumption)]; exact hU) | (rw [cl_crlf (s := s) (i := i) (by omega) ⟨by assumption, by assumption⟩]; exact hU)), hS⟩⟩
            · skip
              have p43 := of_decide_eq_true (andL (notB hc35))
              have p44 := of_decide_eq_true (andR (notB hc35))
              refine Wp.skip ?_
              refine Wp.region rfl ?_
              refine Ops.val (Val.move (T.get_skip rfl (T.get_skip rfl (T.get_skip rfl (T.get_skip rfl (T.get_skip rfl (T.get_skip rfl (T.get_skip rfl (T.get_skip rfl (T.get_skip rfl (T.get_skip rfl (T.get_skip rfl (T.get_skip rfl (T.get_skip rfl (T.get_skip rfl (T.get_skip rfl (T.get_skip rfl (T.get_skip rfl (T.get_skip rfl (T.get_skip rfl g17)))))))))))))))))))) rfl ?_
              refine Ops.val (Val.iadd T.get_same rfl (c := ((i : Int) + 1)) (wrap64 (by omega) (by omega))) rfl ?_
              refine Ops.val (Val.assign T.get_same) rfl ?_
              refine Ops.nil ?_
              exact ⟨_, (by omega), i + 1, _, (by omega), rfl, T.get_same, (T.get_skip rfl (T.get_skip rfl (T.get_skip rfl (T.get_skip rfl (T.get_skip rfl (T.get_skip rfl (T.get_skip rfl (T.get_skip rfl (T.get_skip rfl (T.get_skip rfl (T.get_skip rfl (T.get_skip rfl (T.get_skip rfl (T.get_skip rfl (T.get_skip rfl (T.get_skip rfl (T.get_skip rfl (T.get_skip rfl (T.get_skip rfl (T.get_skip rfl (T.get_skip rfl (T.get_skip rfl g18)))))))))))))))))))))), fun t ht => (T.get_skip (el ht rfl) (T.get_skip (el ht rfl) (T.get_skip (el ht rfl) (T.get_skip (el ht rfl) (T.get_skip (el ht rfl) (T.get_skip (el ht rfl) (T.get_skip (el ht rfl) (T.get_skip (el ht rfl) (T.get_skip (el ht rfl) (T.get_skip (el ht rfl) (T.get_skip (el ht rfl) (T.get_skip (el ht rfl) (T.get_skip (el ht rfl) (T.get_skip (el ht rfl) (T.get_skip (el ht rfl) (T.get_skip (el ht rfl) (T.get_skip (el ht rfl) (T.get_skip (el ht rfl) (T.get_skip (el ht rfl) (T.get_skip (el ht rfl) (T.get_skip (el ht rfl) (T.get_skip (el ht rfl) (hW19 t ht))))))))))))))))))))))), ⟨(by first | (rw [cl_nul (s := s) (i := i) (by omega)]; exact hU) | (rw [cl_ff (s := s) (i := i) (by omega)]; exact hU) | (rw [cl_other (s := s) (i := i) (by omega) (by omega) (by omega)]; exact hU) | (rw [cl_cr (s := s) (i := i) (by omega) (by assumption)]; exact hU) | (rw [cl_crlf (s := s) (i := i) (by omega) ⟨by assumption, by assumption⟩]; exact hU)), hS⟩⟩
          · skip
            have p45 := of_decide_eq_false hc33
            refine Wp.region rfl ?_
            refine Ops.val (Val.move (T.get_skip rfl (T.get_skip rfl (T.get_skip rfl (T.get_skip rfl (T.get_skip rfl (T.get_skip rfl (T.get_skip rfl (T.get_skip rfl (T.get_skip rfl (T.get_skip rfl (T.get_skip rfl (T.get_skip rfl (T.get_skip rfl g18)))))))))))))) rfl ?_
            refine Ops.val (Val.move (T.get_skip rfl (T.get_skip rfl (T.get_skip rfl (T.get_skip rfl (T.get_skip rfl (T.get_skip rfl (T.get_skip rfl (T.get_skip rfl (T.get_skip rfl (T.get_skip rfl (T.get_skip rfl (T.get_skip rfl (T.get_skip rfl (T.get_skip rfl ((hW19 0 rfl).trans g8)))))))))))))))) rfl ?_
            refine Ops.val (Val.move (T.get_skip rfl (T.get_skip rfl (T.get_skip rfl (T.get_skip rfl (T.get_skip rfl (T.get_skip rfl (T.get_skip rfl (T.get_skip rfl (T.get_skip rfl (T.get_skip rfl (T.get_skip rfl (T.get_skip rfl (T.get_skip rfl (T.get_skip rfl (T.get_skip rfl g17)))))))))))))))) rfl ?_
            refine Ops.val (Val.sidx (i := i) Try.underlying9 (T.get_skip rfl T.get_same) T.get_same (by omega)) rfl ?_
            refine Ops.mem (Do.build1 (c := (s.getD i 0)) Try.underlying22 size5 zero5 T.get_same) rfl ?_
            rintro _ st46 ⟨rfl, hV, hS2, -⟩
            have hU := hU.keep hS2
            have hS := hS.then hS2 (Nat.le_refl _)
            refine Ops.mem (Do.append (new := [(s.getD i 0)]) Try.underlying22 info5 fits5 Try.underlying22 (fun _ q => by cases q) (T.get_skip rfl (T.get_skip rfl (T.get_skip rfl (T.get_skip rfl T.get_same)))) T.get_same hU (Nat.zero_le _) hS.nx rfl hV (by first | omega | (simp; omega))) rfl ?_
            rintro v48 st47 ⟨hU, hS2⟩
            have hS := hS.trans hS2
            refine Ops.val (Val.assign T.get_same) rfl ?_
            refine Ops.nil ?_
            refine Wp.region rfl ?_
            refine Ops.val (Val.move (T.get_skip rfl (T.get_skip rfl (T.get_skip rfl (T.get_skip rfl (T.get_skip rfl (T.get_skip rfl (T.get_skip rfl (T.get_skip rfl (T.get_skip rfl (T.get_skip rfl (T.get_skip rfl (T.get_skip rfl (T.get_skip rfl (T.get_skip rfl (T.get_skip rfl (T.get_skip rfl (T.get_skip rfl (T.get_skip rfl (T.get_skip rfl (T.get_skip rfl g17))))))))))))))))))))) rfl ?_
            refine Ops.val (Val.iadd T.get_same rfl (c := ((i : Int) + 1)) (wrap64 (by omega) (by omega))) rfl ?_
            refine Ops.val (Val.assign T.get_same) rfl ?_
            refine Ops.nil ?_
            exact ⟨_, (by omega), i + 1, _, (by omega), rfl, T.get_same, (T.get_skip rfl (T.get_skip rfl (T.get_skip rfl T.get_same))), fun t ht => (T.get_skip (el ht rfl) (T.get_skip (el ht rfl) (T.get_skip (el ht rfl) (T.get_skip (el ht rfl) (T.get_skip (el ht rfl) (T.get_skip (el ht rfl) (T.get_skip (el ht rfl) (T.get_skip (el ht rfl) (T.get_skip (el ht rfl) (T.get_skip (el ht rfl) (T.get_skip (el ht rfl) (T.get_skip (el ht rfl) (T.get_skip (el ht rfl) (T.get_skip (el ht rfl) (T.get_skip (el ht rfl) (T.get_skip (el ht rfl) (T.get_skip (el ht rfl) (T.get_skip (el ht rfl) (T.get_skip (el ht rfl) (T.get_skip (el ht rfl) (T.get_skip (el ht rfl) (T.get_skip (el ht rfl) (T.get_skip (el ht rfl) (hW19 t ht)))))))))))))))))))))))), ⟨(by first | (rw [cl_nul (s := s) (i := i) (by omega)]; exact hU) | (rw [cl_ff (s := s) (i := i) (by omega)]; exact hU) | (rw [cl_other (s := s) (i := i) (by omega) (by omega) (by omega)]; exact hU) | (rw [cl_cr (s := s) (i := i) (by omega) (by assumption)]; exact hU) | (rw [cl_crlf (s := s) (i := i) (by omega) ⟨by assumption, by assumption⟩]; exact hU)), hS⟩⟩
    · skip
      have p49 := of_decide_eq_false hc20
      refine Wp.exit ?_
      refine Wp.seq ?_
      refine Wp.region rfl ?_
      refine Ops.val (Val.move (T.get_skip rfl (T.get_skip rfl (T.get_skip rfl (T.get_skip rfl g18))))) rfl ?_
      refine Ops.mem (Do.bufText Try.underlying22 Try.underlying9 Try.underlying5 T.get_same hU) rfl ?_
      rintro _ _ ⟨rfl, rfl⟩
      refine Ops.val (Val.assign T.get_same) rfl ?_
      refine Ops.val (Val.assign rfl) rfl ?_
      refine Ops.nil ?_
      refine Wp.ret ?_
      show Vm.Fin Try.prog Try.f11 (fun v st' => v = .t [V.str (cleaned s), .i .i64 0] ∧ Sub st.nx st st') .ret _ _
      refine Fin.two (.inr rfl) rfl (T.get_skip rfl T.get_same) T.get_same ?_
      exact ⟨by rw [show i = s.length from by omega]; rfl, hS⟩

end Go.Proofs.Ytonihkpcblfafaa
