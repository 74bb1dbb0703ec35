/-
  Functions of the program that write bytes, followed in the evaluator. Nothing is claimed here.
-/
import Derived.Test.YtonihkpcblfafaaFa
import Derived.Test.YtonihkpcblfafaaVb
import Derived.KernelRfl
namespace Go.Proofs.Ytonihkpcblfafaa
open Go.Vm Go.Lay1
variable {n : Nat}

theorem size5 : sizeB Try.prog 5 = some 1 := by kernel_rfl

theorem lower_ev (s : List UInt8) (hs : s.length ≤ 1099511627776) (st : St) (hn : s.length + 150 ≤ n) : Ev Try.prog ov1 0 n 15 [(V.str (s))] st (fun v st' => v = V.str (lowL s) ∧ Sub st.nx st st') := by
  obtain ⟨m, rfl⟩ : ∃ m, n = m + 60 := ⟨n - 60, by omega⟩
  refine Ev.enter rfl Try.func15 rfl rfl rfl (frame1 _) ?_
  refine Wp.seq ?_
  refine Wp.region rfl ?_
  refine Ops.val (Val.assign (show opnd _ _ = some (V.str ([] : List UInt8)) from rfl)) rfl ?_
  refine Ops.nil ?_
  refine Wp.seq ?_
  refine Wp.region rfl ?_
  refine Ops.val (Val.move (T.get_skip rfl T.get_same)) rfl ?_
  refine Ops.mem (Do.toBytes Try.underlying9 Try.underlying22 Try.underlying5 T.get_same (by omega)) rfl ?_
  rintro _ st1 ⟨rfl, hB, hS, -, -⟩
  refine Ops.val (Val.assign T.get_same) rfl ?_
  refine Ops.nil ?_
  refine Wp.seq ?_
  refine Wp.seq ?_
  refine Wp.region rfl ?_
  refine Ops.val (Val.move T.get_same) rfl ?_
  refine Ops.val (Val.lenSl Try.underlying22 T.get_same) rfl ?_
  refine Ops.val (Val.move rfl) rfl ?_
  refine Ops.nil ?_
  refine Wp.block ?_
  refine Wp.rebase (fun fr2 hF3 => ?_)
  have g4 := (hF3 0).trans (T.get_skip rfl (T.get_skip rfl (T.get_skip rfl (T.get_skip rfl (T.get_skip rfl (T.get_skip rfl (T.get_skip rfl T.get_same)))))))
  have g5 := (hF3 2).trans (T.get_skip rfl (T.get_skip rfl (T.get_skip rfl (T.get_skip rfl (T.get_skip rfl (T.get_skip rfl T.get_same))))))
  have g6 := (hF3 3).trans (T.get_skip rfl (T.get_skip rfl (T.get_skip rfl T.get_same)))
  have g7 := (hF3 6).trans (T.get_skip rfl (T.get_skip rfl (T.get_skip rfl (T.get_skip rfl (T.get_skip rfl T.get_same)))))
  have g8 := (hF3 7).trans (T.get_skip rfl (T.get_skip rfl (T.get_skip rfl (T.get_skip rfl T.get_same))))
  have g9 := (hF3 8).trans (T.get_skip rfl (T.get_skip rfl T.get_same))
  have g10 := (hF3 9).trans (T.get_skip rfl T.get_same)
  refine Wp.loop (I := fun mm fr sx => ∃ (i : Nat), (i ≤ s.length) ∧ mm = s.length - i ∧ fr.get 10 = some (.i .i64 ((i : Int))) ∧ (∀ t, [4, 5, 10, 11, 12, 13, 14, 15, 16, 17, 18, 19, 20].elem t = false → fr.get t = fr2.get t) ∧ (Byt sx st.nx (mid s i) ∧ Sub st.nx st sx)) s.length (by omega) ⟨0, (by omega), rfl, (hF3 10).trans T.get_same, fun t _ => rfl, ⟨by rw [mid_0]; exact hB, hS⟩⟩ (fun mm fr sx hI => ?_)
  obtain ⟨i, hi, rfl, g11, hW12, ⟨hB, hS⟩⟩ := hI
  refine Wp.seq ?_
  refine Wp.region rfl ?_
  refine Ops.val (Val.lss g11 ((hW12 9 rfl).trans g10)) rfl ?_
  refine Ops.nil ?_
  refine Wp.seq ?_
  refine Wp.cond T.get_same (fun hc13 => ?_) (fun hc13 => ?_)
  · skip
    have p14 := of_decide_eq_true hc13
    refine Wp.skip ?_
    refine Wp.seq ?_
    refine Wp.block ?_
    refine Wp.seq ?_
    refine Wp.region rfl ?_
    refine Ops.val (Val.move (T.get_skip rfl g11)) rfl ?_
    refine Ops.val (Val.byteAddr (i := i) Try.underlying22 size5 (T.get_skip rfl (T.get_skip rfl ((hW12 8 rfl).trans g9))) (T.get_skip rfl (T.get_skip rfl g11)) (by omega)) rfl ?_
    refine Ops.mem (Do.loadByte (l := mid s i) Try.underlying5 size5 T.get_same hB (by rw [mid_len (by omega)]; omega)) rfl ?_
    rintro _ _ ⟨rfl, rfl⟩
    refine Ops.val (Val.assign (T.get_skip rfl (T.get_skip rfl T.get_same))) rfl ?_
    refine Ops.val (Val.assign (T.get_skip rfl T.get_same)) rfl ?_
    refine Ops.nil ?_
    refine Wp.region rfl ?_
    refine Ops.val (Val.move (T.get_skip rfl (T.get_skip rfl (T.get_skip rfl (T.get_skip rfl (T.get_skip rfl (T.get_skip rfl ((hW12 3 rfl).trans g6)))))))) rfl ?_
    refine Ops.val (Val.move (T.get_skip rfl (T.get_skip rfl T.get_same))) rfl ?_
    refine Ops.val (Val.move (T.get_skip rfl (T.get_skip rfl T.get_same))) rfl ?_
    refine Ops.call (opndsC T.get_same opnds0) rfl (lowerByte_ev (((mid s i).getD i 0).toNat : Int) (byteI _) _ (by omega)) ?_
    rintro _ _ ⟨rfl, hq⟩
    obtain rfl := Eq.symm hq
    refine Ops.val (Val.byteAddr (i := i) Try.underlying22 size5 (T.get_skip rfl (T.get_skip rfl (T.get_skip rfl T.get_same))) (T.get_skip rfl (T.get_skip rfl T.get_same)) (by omega)) rfl ?_
    refine Ops.eff (Do.storeByte (l := mid s i) size5 T.get_same (T.get_skip rfl T.get_same) (low_byte _) (Nat.zero_le _) hB (by rw [mid_len (by omega)]; omega)) ?_
    rintro st15 ⟨hB, hS2, -⟩
    have hS := hS.trans hS2
    refine Ops.nil ?_
    refine Wp.region rfl ?_
    refine Ops.val (Val.iadd (T.get_skip rfl (T.get_skip rfl (T.get_skip rfl (T.get_skip rfl (T.get_skip rfl (T.get_skip rfl (T.get_skip rfl (T.get_skip rfl (T.get_skip rfl (T.get_skip rfl (T.get_skip rfl g11))))))))))) rfl (c := ((i : Int) + 1)) (wrap64 (by omega) (by omega))) rfl ?_
    refine Ops.val (Val.move T.get_same) rfl ?_
    refine Ops.nil ?_
    exact ⟨_, (by omega), i + 1, (by omega), rfl, T.get_same, fun t ht => (T.get_skip (el ht rfl) (T.get_skip (el ht rfl) (T.get_skip (el ht rfl) (T.get_skip (el ht rfl) (T.get_skip (el ht rfl) (T.get_skip (el ht rfl) (T.get_skip (el ht rfl) (T.get_skip (el ht rfl) (T.get_skip (el ht rfl) (T.get_skip (el ht rfl) (T.get_skip (el ht rfl) (T.get_skip (el ht rfl) (T.get_skip (el ht rfl) (hW12 t ht)))))))))))))), ⟨mid_set (s := s) (i := i) (by omega) ▸ hB, hS⟩⟩
  · skip
    have p16 := of_decide_eq_false hc13
    refine Wp.exit ?_
    refine Wp.seq ?_
    refine Wp.region rfl ?_
    refine Ops.val (Val.move (T.get_skip rfl ((hW12 3 rfl).trans g6))) rfl ?_
    refine Ops.mem (Do.toText (l := mid s i) Try.underlying22 Try.underlying9 Try.underlying5 (by rw [mid_len (by omega)]; exact T.get_same) hB) rfl ?_
    rintro _ _ ⟨rfl, rfl⟩
    refine Ops.val (Val.assign T.get_same) rfl ?_
    refine Ops.nil ?_
    refine Wp.ret ?_
    show Vm.Fin Try.prog Try.f15 (fun v st' => v = V.str (lowL s) ∧ Sub st.nx st st') .ret _ _
    refine Fin.one (.inr rfl) rfl T.get_same ?_
    exact ⟨by rw [show i = s.length from by omega, mid_end], hS⟩

theorem rlower_ev (s : List UInt8) (hs : s.length ≤ 1099511627776) (st : St) (hn : s.length + 150 ≤ n) : Ev Try.prog ov1 0 n 23 [(V.str (s))] st (fun v st' => v = V.str (lowL s) ∧ Sub st.nx st st') := by
  obtain ⟨m, rfl⟩ : ∃ m, n = m + 60 := ⟨n - 60, by omega⟩
  refine Ev.enter rfl Try.func23 rfl rfl rfl (frame1 _) ?_
  refine Wp.seq ?_
  refine Wp.region rfl ?_
  refine Ops.val (Val.assign (show opnd _ _ = some (V.str ([] : List UInt8)) from rfl)) rfl ?_
  refine Ops.nil ?_
  refine Wp.seq ?_
  refine Wp.region rfl ?_
  refine Ops.val (Val.move (T.get_skip rfl T.get_same)) rfl ?_
  refine Ops.mem (Do.toBytes Try.underlying9 Try.underlying22 Try.underlying5 T.get_same (by omega)) rfl ?_
  rintro _ st1 ⟨rfl, hB, hS, -, -⟩
  refine Ops.val (Val.assign T.get_same) rfl ?_
  refine Ops.nil ?_
  refine Wp.seq ?_
  refine Wp.seq ?_
  refine Wp.region rfl ?_
  refine Ops.val (Val.assign rfl) rfl ?_
  refine Ops.nil ?_
  refine Wp.block ?_
  refine Wp.rebase (fun fr2 hF3 => ?_)
  have g4 := (hF3 0).trans (T.get_skip rfl (T.get_skip rfl (T.get_skip rfl (T.get_skip rfl (T.get_skip rfl T.get_same)))))
  have g5 := (hF3 2).trans (T.get_skip rfl (T.get_skip rfl (T.get_skip rfl (T.get_skip rfl T.get_same))))
  have g6 := (hF3 3).trans (T.get_skip rfl T.get_same)
  have g7 := (hF3 5).trans (T.get_skip rfl (T.get_skip rfl (T.get_skip rfl T.get_same)))
  have g8 := (hF3 6).trans (T.get_skip rfl (T.get_skip rfl T.get_same))
  refine Wp.loop (I := fun mm fr sx => ∃ (i : Nat), (i ≤ s.length) ∧ mm = s.length - i ∧ fr.get 4 = some (.i .i64 ((i : Int))) ∧ (∀ t, [4, 7, 8, 9, 10, 11, 12, 13, 14, 15, 16, 17, 18, 19, 20].elem t = false → fr.get t = fr2.get t) ∧ (Byt sx st.nx (mid s i) ∧ Sub st.nx st sx)) s.length (by omega) ⟨0, (by omega), rfl, (hF3 4).trans T.get_same, fun t _ => rfl, ⟨by rw [mid_0]; exact hB, hS⟩⟩ (fun mm fr sx hI => ?_)
  obtain ⟨i, hi, rfl, g9, hW10, ⟨hB, hS⟩⟩ := hI
  refine Wp.seq ?_
  refine Wp.seq ?_
  refine Wp.region rfl ?_
  refine Ops.val (Val.move g9) rfl ?_
  refine Ops.val (Val.move (T.get_skip rfl ((hW10 3 rfl).trans g6))) rfl ?_
  refine Ops.val (Val.lenSl Try.underlying22 T.get_same) rfl ?_
  refine Ops.val (Val.lss (T.get_skip rfl (T.get_skip rfl T.get_same)) T.get_same) rfl ?_
  refine Ops.nil ?_
  refine Wp.cond T.get_same (fun hc11 => ?_) (fun hc11 => ?_)
  · skip
    have p12 := of_decide_eq_true hc11
    refine Wp.skip ?_
    refine Wp.seq ?_
    refine Wp.block ?_
    refine Wp.region rfl ?_
    refine Ops.val (Val.move (T.get_skip rfl (T.get_skip rfl (T.get_skip rfl (T.get_skip rfl ((hW10 3 rfl).trans g6)))))) rfl ?_
    refine Ops.val (Val.move (T.get_skip rfl (T.get_skip rfl (T.get_skip rfl (T.get_skip rfl (T.get_skip rfl g9)))))) rfl ?_
    refine Ops.val (Val.move (T.get_skip rfl (T.get_skip rfl (T.get_skip rfl (T.get_skip rfl (T.get_skip rfl (T.get_skip rfl ((hW10 3 rfl).trans g6)))))))) rfl ?_
    refine Ops.val (Val.move (T.get_skip rfl (T.get_skip rfl (T.get_skip rfl (T.get_skip rfl (T.get_skip rfl (T.get_skip rfl (T.get_skip rfl g9)))))))) rfl ?_
    refine Ops.val (Val.byteAddr (i := i) Try.underlying22 size5 (T.get_skip rfl T.get_same) T.get_same (by omega)) rfl ?_
    refine Ops.mem (Do.loadByte (l := mid s i) Try.underlying5 size5 T.get_same hB (by rw [mid_len (by omega)]; omega)) rfl ?_
    rintro _ _ ⟨rfl, rfl⟩
    refine Ops.call (opndsC T.get_same opnds0) rfl (small_ev (((mid s i).getD i 0).toNat : Int) (byteI _) _ (by omega)) ?_
    rintro _ _ ⟨rfl, hq⟩
    obtain rfl := Eq.symm hq
    refine Ops.val (Val.byteAddr (i := i) Try.underlying22 size5 (T.get_skip rfl (T.get_skip rfl (T.get_skip rfl (T.get_skip rfl (T.get_skip rfl (T.get_skip rfl T.get_same)))))) (T.get_skip rfl (T.get_skip rfl (T.get_skip rfl (T.get_skip rfl (T.get_skip rfl T.get_same))))) (by omega)) rfl ?_
    refine Ops.eff (Do.storeByte (l := mid s i) size5 T.get_same (T.get_skip rfl T.get_same) (low_byte _) (Nat.zero_le _) hB (by rw [mid_len (by omega)]; omega)) ?_
    rintro st13 ⟨hB, hS2, -⟩
    have hS := hS.trans hS2
    refine Ops.nil ?_
    refine Wp.region rfl ?_
    refine Ops.val (Val.move (T.get_skip rfl (T.get_skip rfl (T.get_skip rfl (T.get_skip rfl (T.get_skip rfl (T.get_skip rfl (T.get_skip rfl (T.get_skip rfl (T.get_skip rfl (T.get_skip rfl (T.get_skip rfl (T.get_skip rfl g9))))))))))))) rfl ?_
    refine Ops.val (Val.iadd T.get_same rfl (c := ((i : Int) + 1)) (wrap64 (by omega) (by omega))) rfl ?_
    refine Ops.val (Val.assign T.get_same) rfl ?_
    refine Ops.nil ?_
    exact ⟨_, (by omega), i + 1, (by omega), rfl, T.get_same, fun t ht => (T.get_skip (el ht rfl) (T.get_skip (el ht rfl) (T.get_skip (el ht rfl) (T.get_skip (el ht rfl) (T.get_skip (el ht rfl) (T.get_skip (el ht rfl) (T.get_skip (el ht rfl) (T.get_skip (el ht rfl) (T.get_skip (el ht rfl) (T.get_skip (el ht rfl) (T.get_skip (el ht rfl) (T.get_skip (el ht rfl) (T.get_skip (el ht rfl) (T.get_skip (el ht rfl) (T.get_skip (el ht rfl) (hW10 t ht)))))))))))))))), ⟨mid_set (s := s) (i := i) (by omega) ▸ hB, hS⟩⟩
  · skip
    have p14 := of_decide_eq_false hc11
    refine Wp.exit ?_
    refine Wp.seq ?_
    refine Wp.region rfl ?_
    refine Ops.val (Val.move (T.get_skip rfl (T.get_skip rfl (T.get_skip rfl (T.get_skip rfl ((hW10 3 rfl).trans g6)))))) rfl ?_
    refine Ops.mem (Do.toText (l := mid s i) Try.underlying22 Try.underlying9 Try.underlying5 (by rw [mid_len (by omega)]; exact T.get_same) hB) rfl ?_
    rintro _ _ ⟨rfl, rfl⟩
    refine Ops.val (Val.assign T.get_same) rfl ?_
    refine Ops.nil ?_
    refine Wp.ret ?_
    show Vm.Fin Try.prog Try.f23 (fun v st' => v = V.str (lowL s) ∧ Sub st.nx st st') .ret _ _
    refine Fin.one (.inr rfl) rfl T.get_same ?_
    exact ⟨by rw [show i = s.length from by omega, mid_end], hS⟩

end Go.Proofs.Ytonihkpcblfafaa
