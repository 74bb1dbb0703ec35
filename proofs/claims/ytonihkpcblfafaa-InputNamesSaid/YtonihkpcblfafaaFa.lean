/-
  Functions of the program, followed in the evaluator. Nothing is claimed here.
-/
import Derived.Test.YtonihkpcblfafaaMa
import Derived.Test.YtonihkpcblfafaaOa
namespace Go.Proofs.Ytonihkpcblfafaa
open Go.Vm Go.Lay1
variable {ro n : Nat}

theorem lowerByte_ev (c : Int) (hc : 0 ≤ c ∧ c ≤ 255) (st : St) (hn : 60 ≤ n) : Ev Try.prog ov1 ro n 26 [(.i .u8 (c))] st (fun v st' => v = (.i .u8 (low c)) ∧ st' = st) := by
  obtain ⟨m, rfl⟩ : ∃ m, n = m + 60 := ⟨n - 60, by omega⟩
  refine Ev.enter rfl Try.func26 rfl rfl rfl (frame1 _) ?_
  refine Wp.seq ?_
  refine Wp.region rfl ?_
  refine Ops.val (Val.assign rfl) rfl ?_
  refine Ops.nil ?_
  refine Wp.seq ?_
  refine Wp.seq ?_
  refine Wp.region rfl ?_
  refine Ops.val (Val.move (T.get_skip rfl T.get_same)) rfl ?_
  refine Ops.val (Val.leq rfl T.get_same) rfl ?_
  refine Ops.val (Val.move T.get_same) rfl ?_
  refine Ops.cutN 3 [6, 7, 8] 8 (.b ((decide (65 ≤ c)) && (decide (c ≤ 90)))) ?_ (fun fr3 g1 hF2 => ?_)
  · rcases Bool.eq_false_or_eq_true (decide (65 ≤ c)) with hg4 | hg4
    · skip
      have p5 := of_decide_eq_true hg4
      refine Ops.yes rfl T.get_same hg4 ?_
      refine Ops.val (Val.move (T.get_skip rfl (T.get_skip rfl (T.get_skip rfl (T.get_skip rfl T.get_same))))) rfl ?_
      refine Ops.yes rfl (T.get_skip rfl T.get_same) hg4 ?_
      refine Ops.val (Val.leq T.get_same rfl) rfl ?_
      refine Ops.val (Val.pickT (T.get_skip rfl (T.get_skip rfl T.get_same)) hg4 T.get_same) rfl ?_
      exact Ops.nil ⟨T.get_same.trans (cutAT hg4), fun t ht => (T.get_skip (el ht rfl) (T.get_skip (el ht rfl) (T.get_skip (el ht rfl) rfl))), rfl⟩
    · skip
      refine Ops.no rfl T.get_same hg4 rfl ?_
      refine Ops.no rfl (T.get_skip rfl T.get_same) hg4 rfl ?_
      refine Ops.val (Val.pickF (T.get_skip rfl (T.get_skip rfl T.get_same)) hg4 rfl) rfl ?_
      exact Ops.nil ⟨T.get_same.trans (cutAF hg4), fun t ht => (T.get_skip (el ht rfl) (T.get_skip (el ht rfl) (T.get_skip (el ht rfl) rfl))), rfl⟩
  refine Ops.nil ?_
  refine Wp.cond g1 (fun hc6 => ?_) (fun hc6 => ?_)
  · skip
    have p8 := of_decide_eq_true (andL hc6)
    have p9 := of_decide_eq_true (andR hc6)
    refine Wp.seq ?_
    refine Wp.region rfl ?_
    refine Ops.val (Val.move ((hF2 0 rfl).trans (T.get_skip rfl (T.get_skip rfl (T.get_skip rfl (T.get_skip rfl T.get_same)))))) rfl ?_
    refine Ops.val (Val.iadd T.get_same rfl (c := (c + 32)) (wrapu8 (by omega) (by omega))) rfl ?_
    refine Ops.val (Val.assign T.get_same) rfl ?_
    refine Ops.nil ?_
    refine Wp.ret ?_
    show Vm.Fin Try.prog Try.f26 (fun v st' => v = (.i .u8 (low c)) ∧ st' = st) .ret _ _
    refine Fin.one (.inr rfl) rfl T.get_same ?_
    exact ⟨by first | rw [low_yes (by omega)] | rw [low_no (by omega)], rfl⟩
  · skip
    have p10 : ¬ ((65 ≤ c) ∧ (c ≤ 90)) := andF iffD iffD hc6
    refine Wp.skip ?_
    refine Wp.seq ?_
    refine Wp.region rfl ?_
    refine Ops.val (Val.move ((hF2 0 rfl).trans (T.get_skip rfl (T.get_skip rfl (T.get_skip rfl (T.get_skip rfl T.get_same)))))) rfl ?_
    refine Ops.val (Val.assign T.get_same) rfl ?_
    refine Ops.nil ?_
    refine Wp.ret ?_
    show Vm.Fin Try.prog Try.f26 (fun v st' => v = (.i .u8 (low c)) ∧ st' = st) .ret _ _
    refine Fin.one (.inr rfl) rfl T.get_same ?_
    exact ⟨by first | rw [low_yes (by omega)] | rw [low_no (by omega)], rfl⟩

theorem small_ev (c : Int) (hc : 0 ≤ c ∧ c ≤ 255) (st : St) (hn : 60 ≤ n) : Ev Try.prog ov1 ro n 30 [(.i .u8 (c))] st (fun v st' => v = (.i .u8 (low c)) ∧ st' = st) := by
  obtain ⟨m, rfl⟩ : ∃ m, n = m + 60 := ⟨n - 60, by omega⟩
  refine Ev.enter rfl Try.func30 rfl rfl rfl (frame1 _) ?_
  refine Wp.seq ?_
  refine Wp.region rfl ?_
  refine Ops.val (Val.assign rfl) rfl ?_
  refine Ops.nil ?_
  refine Wp.seq ?_
  refine Wp.seq ?_
  refine Wp.region rfl ?_
  refine Ops.val (Val.move (T.get_skip rfl T.get_same)) rfl ?_
  refine Ops.val (Val.geq T.get_same rfl) rfl ?_
  refine Ops.val (Val.move T.get_same) rfl ?_
  refine Ops.cutN 3 [6, 7, 8] 8 (.b ((decide (65 ≤ c)) && (decide (c ≤ 90)))) ?_ (fun fr3 g1 hF2 => ?_)
  · rcases Bool.eq_false_or_eq_true (decide (65 ≤ c)) with hg4 | hg4
    · skip
      have p5 := of_decide_eq_true hg4
      refine Ops.yes rfl T.get_same hg4 ?_
      refine Ops.val (Val.move (T.get_skip rfl (T.get_skip rfl (T.get_skip rfl (T.get_skip rfl T.get_same))))) rfl ?_
      refine Ops.yes rfl (T.get_skip rfl T.get_same) hg4 ?_
      refine Ops.val (Val.leq T.get_same rfl) rfl ?_
      refine Ops.val (Val.pickT (T.get_skip rfl (T.get_skip rfl T.get_same)) hg4 T.get_same) rfl ?_
      exact Ops.nil ⟨T.get_same.trans (cutAT hg4), fun t ht => (T.get_skip (el ht rfl) (T.get_skip (el ht rfl) (T.get_skip (el ht rfl) rfl))), rfl⟩
    · skip
      refine Ops.no rfl T.get_same hg4 rfl ?_
      refine Ops.no rfl (T.get_skip rfl T.get_same) hg4 rfl ?_
      refine Ops.val (Val.pickF (T.get_skip rfl (T.get_skip rfl T.get_same)) hg4 rfl) rfl ?_
      exact Ops.nil ⟨T.get_same.trans (cutAF hg4), fun t ht => (T.get_skip (el ht rfl) (T.get_skip (el ht rfl) (T.get_skip (el ht rfl) rfl))), rfl⟩
  refine Ops.nil ?_
  refine Wp.cond g1 (fun hc6 => ?_) (fun hc6 => ?_)
  · skip
    have p8 := of_decide_eq_true (andL hc6)
    have p9 := of_decide_eq_true (andR hc6)
    refine Wp.seq ?_
    refine Wp.region rfl ?_
    refine Ops.val (Val.move ((hF2 0 rfl).trans (T.get_skip rfl (T.get_skip rfl (T.get_skip rfl (T.get_skip rfl T.get_same)))))) rfl ?_
    refine Ops.val (Val.isub T.get_same rfl (c := (c - 65)) (wrapu8 (by omega) (by omega))) rfl ?_
    refine Ops.val (Val.iadd T.get_same rfl (c := ((c - 65) + 97)) (wrapu8 (by omega) (by omega))) rfl ?_
    refine Ops.val (Val.assign T.get_same) rfl ?_
    refine Ops.nil ?_
    refine Wp.ret ?_
    show Vm.Fin Try.prog Try.f30 (fun v st' => v = (.i .u8 (low c)) ∧ st' = st) .ret _ _
    refine Fin.one (.inr rfl) rfl T.get_same ?_
    exact ⟨by first | (rw [low_yes (by omega)]; congr 1; omega) | rw [low_no (by omega)], rfl⟩
  · skip
    have p10 : ¬ ((65 ≤ c) ∧ (c ≤ 90)) := andF iffD iffD hc6
    refine Wp.skip ?_
    refine Wp.seq ?_
    refine Wp.region rfl ?_
    refine Ops.val (Val.move ((hF2 0 rfl).trans (T.get_skip rfl (T.get_skip rfl (T.get_skip rfl (T.get_skip rfl T.get_same)))))) rfl ?_
    refine Ops.val (Val.assign T.get_same) rfl ?_
    refine Ops.nil ?_
    refine Wp.ret ?_
    show Vm.Fin Try.prog Try.f30 (fun v st' => v = (.i .u8 (low c)) ∧ st' = st) .ret _ _
    refine Fin.one (.inr rfl) rfl T.get_same ?_
    exact ⟨by first | (rw [low_yes (by omega)]; congr 1; omega) | rw [low_no (by omega)], rfl⟩

theorem alike_ev (a b : List UInt8) (ha : a.length ≤ 1099511627776) (st : St) (hn : a.length + 120 ≤ n) : Ev Try.prog ov1 ro n 16 [(V.str (a)), (V.str (b))] st (fun v st' => v = (.b (alikeL a b)) ∧ st' = st) := by
  obtain ⟨m, rfl⟩ : ∃ m, n = m + 60 := ⟨n - 60, by omega⟩
  refine Ev.enter rfl Try.func16 rfl rfl rfl (frame2 _ _) ?_
  refine Wp.seq ?_
  refine Wp.region rfl ?_
  refine Ops.val (Val.assign rfl) rfl ?_
  refine Ops.nil ?_
  refine Wp.seq ?_
  refine Wp.seq ?_
  refine Wp.region rfl ?_
  refine Ops.val (Val.move (T.get_skip rfl (T.get_skip rfl T.get_same))) rfl ?_
  refine Ops.val (Val.slen Try.underlying9 T.get_same) rfl ?_
  refine Ops.val (Val.move (T.get_skip rfl (T.get_skip rfl (T.get_skip rfl T.get_same)))) rfl ?_
  refine Ops.val (Val.slen Try.underlying9 T.get_same) rfl ?_
  refine Ops.val (Val.ineq (T.get_skip rfl (T.get_skip rfl T.get_same)) T.get_same) rfl ?_
  refine Ops.nil ?_
  refine Wp.cond T.get_same (fun hc1 => ?_) (fun hc1 => ?_)
  · skip
    have p2 := of_decide_eq_true hc1
    refine Wp.seq ?_
    refine Wp.region rfl ?_
    refine Ops.val (Val.assign rfl) rfl ?_
    refine Ops.nil ?_
    refine Wp.ret ?_
    show Vm.Fin Try.prog Try.f16 (fun v st' => v = (.b (alikeL a b)) ∧ st' = st) .ret _ _
    refine Fin.one (.inr rfl) rfl T.get_same ?_
    exact ⟨by first | rw [alike_len (by omega)] | rw [alike_at (i := i) (by omega) (by omega) (by omega)] | rw [alike_all (by omega) (fun j hj => hall j (by omega))], rfl⟩
  · skip
    have p3 := of_decide_eq_false hc1
    refine Wp.skip ?_
    refine Wp.seq ?_
    refine Wp.seq ?_
    refine Wp.region rfl ?_
    refine Ops.val (Val.move (T.get_skip rfl (T.get_skip rfl (T.get_skip rfl (T.get_skip rfl (T.get_skip rfl (T.get_skip rfl (T.get_skip rfl T.get_same)))))))) rfl ?_
    refine Ops.val (Val.slen Try.underlying9 T.get_same) rfl ?_
    refine Ops.val (Val.move rfl) rfl ?_
    refine Ops.nil ?_
    refine Wp.block ?_
    refine Wp.rebase (fun fr4 hF5 => ?_)
    have g6 := (hF5 0).trans (T.get_skip rfl (T.get_skip rfl (T.get_skip rfl (T.get_skip rfl (T.get_skip rfl (T.get_skip rfl (T.get_skip rfl (T.get_skip rfl (T.get_skip rfl (T.get_skip rfl T.get_same))))))))))
    have g7 := (hF5 1).trans (T.get_skip rfl (T.get_skip rfl (T.get_skip rfl (T.get_skip rfl (T.get_skip rfl (T.get_skip rfl (T.get_skip rfl (T.get_skip rfl (T.get_skip rfl T.get_same)))))))))
    have g8 := (hF5 6).trans (T.get_skip rfl (T.get_skip rfl (T.get_skip rfl (T.get_skip rfl (T.get_skip rfl (T.get_skip rfl (T.get_skip rfl T.get_same)))))))
    have g9 := (hF5 7).trans (T.get_skip rfl (T.get_skip rfl (T.get_skip rfl (T.get_skip rfl (T.get_skip rfl (T.get_skip rfl T.get_same))))))
    have g10 := (hF5 8).trans (T.get_skip rfl (T.get_skip rfl (T.get_skip rfl (T.get_skip rfl (T.get_skip rfl T.get_same)))))
    have g11 := (hF5 9).trans (T.get_skip rfl (T.get_skip rfl (T.get_skip rfl (T.get_skip rfl T.get_same))))
    have g12 := (hF5 10).trans (T.get_skip rfl (T.get_skip rfl (T.get_skip rfl T.get_same)))
    have g13 := (hF5 11).trans (T.get_skip rfl (T.get_skip rfl T.get_same))
    have g14 := (hF5 12).trans (T.get_skip rfl T.get_same)
    refine Wp.loop (I := fun mm fr sx => ∃ (i : Nat), (i ≤ a.length) ∧ (∀ j : Nat, j < i → low ((a.getD j 0).toNat : Int) = low ((b.getD j 0).toNat : Int)) ∧ mm = a.length - i ∧ fr.get 13 = some (.i .i64 ((i : Int))) ∧ (∀ t, [4, 5, 13, 14, 15, 16, 17, 18, 19, 20, 21, 22, 23, 24, 25].elem t = false → fr.get t = fr4.get t) ∧ st = sx) a.length (by omega) ⟨0, (by omega), (fun j hj => by omega), rfl, (hF5 13).trans T.get_same, fun t _ => rfl, rfl⟩ (fun mm fr sx hI => ?_)
    obtain ⟨i, hi, hall, rfl, g15, hW16, rfl⟩ := hI
    refine Wp.seq ?_
    refine Wp.region rfl ?_
    refine Ops.val (Val.lss g15 ((hW16 12 rfl).trans g14)) rfl ?_
    refine Ops.nil ?_
    refine Wp.seq ?_
    refine Wp.cond T.get_same (fun hc17 => ?_) (fun hc17 => ?_)
    · skip
      have p18 := of_decide_eq_true hc17
      refine Wp.skip ?_
      refine Wp.seq ?_
      refine Wp.block ?_
      refine Wp.seq ?_
      refine Wp.region rfl ?_
      refine Ops.val (Val.move (T.get_skip rfl g15)) rfl ?_
      refine Ops.val (Val.assign T.get_same) rfl ?_
      refine Ops.nil ?_
      refine Wp.seq ?_
      refine Wp.regionQ (by decide +kernel) rfl ?_
      refine OpsQ.val (Val.move (T.get_skip rfl (T.get_skip rfl (T.get_skip rfl ((hW16 0 rfl).trans g6))))) rfl ?_
      refine OpsQ.val (Val.move (T.get_skip rfl T.get_same)) rfl ?_
      refine OpsQ.val (Val.sidx (i := i) Try.underlying9 (T.get_skip rfl T.get_same) T.get_same (by omega)) rfl ?_
      refine OpsQ.call (opndsC T.get_same opnds0) rfl (fun st => lowerByte_ev ((a.getD i 0).toNat : Int) (byteI _) _ (by omega)) ?_
      refine OpsQ.val (Val.move (T.get_skip rfl (T.get_skip rfl (T.get_skip rfl (T.get_skip rfl (T.get_skip rfl (T.get_skip rfl (T.get_skip rfl ((hW16 1 rfl).trans g7))))))))) rfl ?_
      refine OpsQ.val (Val.move (T.get_skip rfl (T.get_skip rfl (T.get_skip rfl (T.get_skip rfl (T.get_skip rfl T.get_same)))))) rfl ?_
      refine OpsQ.val (Val.sidx (i := i) Try.underlying9 (T.get_skip rfl T.get_same) T.get_same (by omega)) rfl ?_
      refine OpsQ.call (opndsC T.get_same opnds0) rfl (fun st => lowerByte_ev ((b.getD i 0).toNat : Int) (byteI _) _ (by omega)) ?_
      refine OpsQ.val (Val.ineq (T.get_skip rfl (T.get_skip rfl (T.get_skip rfl (T.get_skip rfl T.get_same)))) T.get_same) rfl ?_
      refine OpsQ.nil ?_
      refine Wp.cond T.get_same (fun hc19 => ?_) (fun hc19 => ?_)
      · skip
        have p20 := of_decide_eq_true hc19
        refine Wp.seq ?_
        refine Wp.region rfl ?_
        refine Ops.val (Val.assign rfl) rfl ?_
        refine Ops.nil ?_
        refine Wp.ret ?_
        show Vm.Fin Try.prog Try.f16 (fun v st' => v = (.b (alikeL a b)) ∧ st' = st) .ret _ _
        refine Fin.one (.inr rfl) rfl T.get_same ?_
        exact ⟨by first | rw [alike_len (by omega)] | rw [alike_at (i := i) (by omega) (by omega) (by omega)] | rw [alike_all (by omega) (fun j hj => hall j (by omega))], rfl⟩
      · skip
        have p21 := of_decide_eq_false hc19
        refine Wp.skip ?_
        refine Wp.region rfl ?_
        refine Ops.val (Val.iadd (T.get_skip rfl (T.get_skip rfl (T.get_skip rfl (T.get_skip rfl (T.get_skip rfl (T.get_skip rfl (T.get_skip rfl (T.get_skip rfl (T.get_skip rfl (T.get_skip rfl (T.get_skip rfl (T.get_skip rfl g15)))))))))))) rfl (c := ((i : Int) + 1)) (wrap64 (by omega) (by omega))) rfl ?_
        refine Ops.val (Val.move T.get_same) rfl ?_
        refine Ops.nil ?_
        exact ⟨_, (by omega), i + 1, (by omega), (fun j hj => by rcases Nat.lt_or_eq_of_le (Nat.lt_succ_iff.1 hj) with h | h; exact hall j h; subst h; omega), rfl, T.get_same, fun t ht => (T.get_skip (el ht rfl) (T.get_skip (el ht rfl) (T.get_skip (el ht rfl) (T.get_skip (el ht rfl) (T.get_skip (el ht rfl) (T.get_skip (el ht rfl) (T.get_skip (el ht rfl) (T.get_skip (el ht rfl) (T.get_skip (el ht rfl) (T.get_skip (el ht rfl) (T.get_skip (el ht rfl) (T.get_skip (el ht rfl) (T.get_skip (el ht rfl) (T.get_skip (el ht rfl) (hW16 t ht))))))))))))))), rfl⟩
    · skip
      have p22 := of_decide_eq_false hc17
      refine Wp.exit ?_
      refine Wp.seq ?_
      refine Wp.region rfl ?_
      refine Ops.val (Val.assign rfl) rfl ?_
      refine Ops.nil ?_
      refine Wp.ret ?_
      show Vm.Fin Try.prog Try.f16 (fun v st' => v = (.b (alikeL a b)) ∧ st' = st) .ret _ _
      refine Fin.one (.inr rfl) rfl T.get_same ?_
      exact ⟨by first | rw [alike_len (by omega)] | rw [alike_at (i := i) (by omega) (by omega) (by omega)] | rw [alike_all (by omega) (fun j hj => hall j (by omega))], rfl⟩

theorem check_ev (s : List UInt8) (hs : s.length ≤ 1099511627776) (st : St) (hn : s.length + 60 ≤ n) : Ev Try.prog ov1 ro n 12 [(V.str (s))] st (fun v st' => v = (.i .i64 (check s)) ∧ st' = st) := by
  obtain ⟨m, rfl⟩ : ∃ m, n = m + 60 := ⟨n - 60, by omega⟩
  refine Ev.enter rfl Try.func12 rfl rfl rfl (frame1 _) ?_
  refine Wp.seq ?_
  refine Wp.region rfl ?_
  refine Ops.val (Val.assign rfl) rfl ?_
  refine Ops.nil ?_
  refine Wp.seq ?_
  refine Wp.seq ?_
  refine Wp.region rfl ?_
  refine Ops.val (Val.move (T.get_skip rfl T.get_same)) rfl ?_
  refine Ops.val (Val.slen Try.underlying9 T.get_same) rfl ?_
  refine Ops.val (Val.gtr T.get_same rfl) rfl ?_
  refine Ops.nil ?_
  refine Wp.cond T.get_same (fun hc1 => ?_) (fun hc1 => ?_)
  · skip
    have p2 := of_decide_eq_true hc1
    refine Wp.seq ?_
    refine Wp.region rfl ?_
    refine Ops.val (Val.assign rfl) rfl ?_
    refine Ops.nil ?_
    refine Wp.ret ?_
    show Vm.Fin Try.prog Try.f12 (fun v st' => v = (.i .i64 (check s)) ∧ st' = st) .ret _ _
    refine Fin.one (.inr rfl) rfl T.get_same ?_
    exact ⟨by first | rw [check_long (by omega)] | rw [check_bad (by omega) (isClean_not (i := i) (by omega) (dirty_of (by first | assumption | omega)))] | rw [check_ok (by omega) (isClean_yes (fun j hj => hall j (by omega)))], rfl⟩
  · skip
    have p3 := of_decide_eq_false hc1
    refine Wp.skip ?_
    refine Wp.seq ?_
    refine Wp.seq ?_
    refine Wp.region rfl ?_
    refine Ops.val (Val.assign rfl) rfl ?_
    refine Ops.nil ?_
    refine Wp.block ?_
    refine Wp.rebase (fun fr4 hF5 => ?_)
    have g6 := (hF5 0).trans (T.get_skip rfl (T.get_skip rfl (T.get_skip rfl (T.get_skip rfl (T.get_skip rfl T.get_same)))))
    have g7 := (hF5 4).trans (T.get_skip rfl (T.get_skip rfl (T.get_skip rfl T.get_same)))
    have g8 := (hF5 5).trans (T.get_skip rfl (T.get_skip rfl T.get_same))
    have g9 := (hF5 6).trans (T.get_skip rfl T.get_same)
    refine Wp.loop (I := fun mm fr sx => ∃ (i : Nat), (i ≤ s.length) ∧ (∀ j : Nat, j < i → dirty (s.getD j 0) = false) ∧ mm = s.length - i ∧ fr.get 3 = some (.i .i64 ((i : Int))) ∧ (∀ t, [2, 3, 7, 8, 9, 10, 11, 12, 13, 14, 15, 16, 17, 18, 19, 20, 21, 22, 23, 24, 25, 26, 27, 28].elem t = false → fr.get t = fr4.get t) ∧ st = sx) s.length (by omega) ⟨0, (by omega), (fun j hj => by omega), rfl, (hF5 3).trans T.get_same, fun t _ => rfl, rfl⟩ (fun mm fr sx hI => ?_)
    obtain ⟨i, hi, hall, rfl, g10, hW11, rfl⟩ := hI
    refine Wp.seq ?_
    refine Wp.seq ?_
    refine Wp.region rfl ?_
    refine Ops.val (Val.move g10) rfl ?_
    refine Ops.val (Val.move (T.get_skip rfl ((hW11 0 rfl).trans g6))) rfl ?_
    refine Ops.val (Val.slen Try.underlying9 T.get_same) rfl ?_
    refine Ops.val (Val.lss (T.get_skip rfl (T.get_skip rfl T.get_same)) T.get_same) rfl ?_
    refine Ops.nil ?_
    refine Wp.cond T.get_same (fun hc12 => ?_) (fun hc12 => ?_)
    · skip
      have p13 := of_decide_eq_true hc12
      refine Wp.skip ?_
      refine Wp.seq ?_
      refine Wp.block ?_
      refine Wp.seq ?_
      refine Wp.region rfl ?_
      refine Ops.val (Val.move (T.get_skip rfl (T.get_skip rfl (T.get_skip rfl (T.get_skip rfl ((hW11 0 rfl).trans g6)))))) rfl ?_
      refine Ops.val (Val.move (T.get_skip rfl (T.get_skip rfl (T.get_skip rfl (T.get_skip rfl (T.get_skip rfl g10)))))) rfl ?_
      refine Ops.val (Val.sidx (i := i) Try.underlying9 (T.get_skip rfl T.get_same) T.get_same (by omega)) rfl ?_
      refine Ops.val (Val.ieql T.get_same rfl) rfl ?_
      refine Ops.val (Val.move T.get_same) rfl ?_
      refine Ops.cutN 5 [18, 19, 20, 21, 22] 22 (.b ((decide (((s.getD i 0).toNat : Int) = 0)) || (decide (((s.getD i 0).toNat : Int) = 12)))) ?_ (fun fr16 g14 hF15 => ?_)
      · rcases Bool.eq_false_or_eq_true (decide (((s.getD i 0).toNat : Int) = 0)) with hg17 | hg17
        · skip
          refine Ops.no rfl T.get_same hg17 rfl ?_
          refine Ops.no rfl (T.get_skip rfl T.get_same) hg17 rfl ?_
          refine Ops.no rfl (T.get_skip rfl (T.get_skip rfl T.get_same)) hg17 rfl ?_
          refine Ops.no rfl (T.get_skip rfl (T.get_skip rfl (T.get_skip rfl T.get_same))) hg17 rfl ?_
          refine Ops.val (Val.pickT (T.get_skip rfl (T.get_skip rfl (T.get_skip rfl (T.get_skip rfl T.get_same)))) hg17 rfl) rfl ?_
          exact Ops.nil ⟨T.get_same.trans (cutOT hg17), fun t ht => (T.get_skip (el ht rfl) (T.get_skip (el ht rfl) (T.get_skip (el ht rfl) (T.get_skip (el ht rfl) (T.get_skip (el ht rfl) rfl))))), rfl⟩
        · skip
          have p18 := of_decide_eq_false hg17
          refine Ops.yes rfl T.get_same hg17 ?_
          refine Ops.val (Val.move (T.get_skip rfl (T.get_skip rfl (T.get_skip rfl (T.get_skip rfl (T.get_skip rfl (T.get_skip rfl (T.get_skip rfl (T.get_skip rfl (T.get_skip rfl ((hW11 0 rfl).trans g6))))))))))) rfl ?_
          refine Ops.yes rfl (T.get_skip rfl T.get_same) hg17 ?_
          refine Ops.val (Val.move (T.get_skip rfl (T.get_skip rfl (T.get_skip rfl (T.get_skip rfl (T.get_skip rfl (T.get_skip rfl (T.get_skip rfl (T.get_skip rfl (T.get_skip rfl (T.get_skip rfl g10))))))))))) rfl ?_
          refine Ops.yes rfl (T.get_skip rfl (T.get_skip rfl T.get_same)) hg17 ?_
          refine Ops.val (Val.sidx (i := i) Try.underlying9 (T.get_skip rfl T.get_same) T.get_same (by omega)) rfl ?_
          refine Ops.yes rfl (T.get_skip rfl (T.get_skip rfl (T.get_skip rfl T.get_same))) hg17 ?_
          refine Ops.val (Val.ieql T.get_same rfl) rfl ?_
          refine Ops.val (Val.pickF (T.get_skip rfl (T.get_skip rfl (T.get_skip rfl (T.get_skip rfl T.get_same)))) hg17 T.get_same) rfl ?_
          exact Ops.nil ⟨T.get_same.trans (cutOF hg17), fun t ht => (T.get_skip (el ht rfl) (T.get_skip (el ht rfl) (T.get_skip (el ht rfl) (T.get_skip (el ht rfl) (T.get_skip (el ht rfl) rfl))))), rfl⟩
      refine Ops.val (Val.move g14) rfl ?_
      refine Ops.cutN 5 [24, 25, 26, 27, 28] 28 (.b (((decide (((s.getD i 0).toNat : Int) = 0)) || (decide (((s.getD i 0).toNat : Int) = 12))) || (decide (((s.getD i 0).toNat : Int) = 13)))) ?_ (fun fr21 g19 hF20 => ?_)
      · rcases Bool.eq_false_or_eq_true ((decide (((s.getD i 0).toNat : Int) = 0)) || (decide (((s.getD i 0).toNat : Int) = 12))) with hg22 | hg22
        · skip
          refine Ops.no rfl T.get_same hg22 rfl ?_
          refine Ops.no rfl (T.get_skip rfl T.get_same) hg22 rfl ?_
          refine Ops.no rfl (T.get_skip rfl (T.get_skip rfl T.get_same)) hg22 rfl ?_
          refine Ops.no rfl (T.get_skip rfl (T.get_skip rfl (T.get_skip rfl T.get_same))) hg22 rfl ?_
          refine Ops.val (Val.pickT (T.get_skip rfl (T.get_skip rfl (T.get_skip rfl (T.get_skip rfl T.get_same)))) hg22 rfl) rfl ?_
          exact Ops.nil ⟨T.get_same.trans (cutOT hg22), fun t ht => (T.get_skip (el ht rfl) (T.get_skip (el ht rfl) (T.get_skip (el ht rfl) (T.get_skip (el ht rfl) (T.get_skip (el ht rfl) rfl))))), rfl⟩
        · skip
          have p24 := of_decide_eq_false (orL hg22)
          have p25 := of_decide_eq_false (orR hg22)
          refine Ops.yes rfl T.get_same hg22 ?_
          refine Ops.val (Val.move (T.get_skip rfl ((hF15 0 rfl).trans (T.get_skip rfl (T.get_skip rfl (T.get_skip rfl (T.get_skip rfl (T.get_skip rfl (T.get_skip rfl (T.get_skip rfl (T.get_skip rfl (T.get_skip rfl ((hW11 0 rfl).trans g6))))))))))))) rfl ?_
          refine Ops.yes rfl (T.get_skip rfl T.get_same) hg22 ?_
          refine Ops.val (Val.move (T.get_skip rfl (T.get_skip rfl ((hF15 3 rfl).trans (T.get_skip rfl (T.get_skip rfl (T.get_skip rfl (T.get_skip rfl (T.get_skip rfl (T.get_skip rfl (T.get_skip rfl (T.get_skip rfl (T.get_skip rfl g10))))))))))))) rfl ?_
          refine Ops.yes rfl (T.get_skip rfl (T.get_skip rfl T.get_same)) hg22 ?_
          refine Ops.val (Val.sidx (i := i) Try.underlying9 (T.get_skip rfl T.get_same) T.get_same (by omega)) rfl ?_
          refine Ops.yes rfl (T.get_skip rfl (T.get_skip rfl (T.get_skip rfl T.get_same))) hg22 ?_
          refine Ops.val (Val.ieql T.get_same rfl) rfl ?_
          refine Ops.val (Val.pickF (T.get_skip rfl (T.get_skip rfl (T.get_skip rfl (T.get_skip rfl T.get_same)))) hg22 T.get_same) rfl ?_
          exact Ops.nil ⟨T.get_same.trans (cutOF hg22), fun t ht => (T.get_skip (el ht rfl) (T.get_skip (el ht rfl) (T.get_skip (el ht rfl) (T.get_skip (el ht rfl) (T.get_skip (el ht rfl) rfl))))), rfl⟩
      refine Ops.nil ?_
      refine Wp.cond g19 (fun hc26 => ?_) (fun hc26 => ?_)
      · skip
        have p27 : (((((s.getD i 0).toNat : Int) = 0) ∨ (((s.getD i 0).toNat : Int) = 12)) ∨ (((s.getD i 0).toNat : Int) = 13)) := orT (iffO iffD iffD) iffD hc26
        refine Wp.seq ?_
        refine Wp.region rfl ?_
        refine Ops.val (Val.assign rfl) rfl ?_
        refine Ops.nil ?_
        refine Wp.ret ?_
        show Vm.Fin Try.prog Try.f12 (fun v st' => v = (.i .i64 (check s)) ∧ st' = st) .ret _ _
        refine Fin.one (.inr rfl) rfl T.get_same ?_
        exact ⟨by first | rw [check_long (by omega)] | rw [check_bad (by omega) (isClean_not (i := i) (by omega) (dirty_of (by first | assumption | omega)))] | rw [check_ok (by omega) (isClean_yes (fun j hj => hall j (by omega)))], rfl⟩
      · skip
        have p30 := of_decide_eq_false (orL (orL hc26))
        have p31 := of_decide_eq_false (orR (orL hc26))
        have p32 := of_decide_eq_false (orR hc26)
        refine Wp.skip ?_
        refine Wp.region rfl ?_
        refine Ops.val (Val.move ((hF20 3 rfl).trans (T.get_skip rfl ((hF15 3 rfl).trans (T.get_skip rfl (T.get_skip rfl (T.get_skip rfl (T.get_skip rfl (T.get_skip rfl (T.get_skip rfl (T.get_skip rfl (T.get_skip rfl (T.get_skip rfl g10))))))))))))) rfl ?_
        refine Ops.val (Val.iadd T.get_same rfl (c := ((i : Int) + 1)) (wrap64 (by omega) (by omega))) rfl ?_
        refine Ops.val (Val.assign T.get_same) rfl ?_
        refine Ops.nil ?_
        exact ⟨_, (by omega), i + 1, (by omega), (fun j hj => by rcases Nat.lt_or_eq_of_le (Nat.lt_succ_iff.1 hj) with h | h; exact hall j h; subst h; exact not_dirty (by first | assumption | omega)), rfl, T.get_same, fun t ht => (T.get_skip (el ht rfl) (T.get_skip (el ht rfl) (T.get_skip (el ht rfl) ((hF20 t (elW ht rfl)).trans (T.get_skip (el ht rfl) ((hF15 t (elW ht rfl)).trans (T.get_skip (el ht rfl) (T.get_skip (el ht rfl) (T.get_skip (el ht rfl) (T.get_skip (el ht rfl) (T.get_skip (el ht rfl) (T.get_skip (el ht rfl) (T.get_skip (el ht rfl) (T.get_skip (el ht rfl) (T.get_skip (el ht rfl) (hW11 t ht)))))))))))))))), rfl⟩
    · skip
      have p33 := of_decide_eq_false hc12
      refine Wp.exit ?_
      refine Wp.seq ?_
      refine Wp.region rfl ?_
      refine Ops.val (Val.assign rfl) rfl ?_
      refine Ops.nil ?_
      refine Wp.ret ?_
      show Vm.Fin Try.prog Try.f12 (fun v st' => v = (.i .i64 (check s)) ∧ st' = st) .ret _ _
      refine Fin.one (.inr rfl) rfl T.get_same ?_
      exact ⟨by first | rw [check_long (by omega)] | rw [check_bad (by omega) (isClean_not (i := i) (by omega) (dirty_of (by first | assumption | omega)))] | rw [check_ok (by omega) (isClean_yes (fun j hj => hall j (by omega)))], rfl⟩

theorem is_ev (s : List UInt8) (hs : s.length ≤ 1099511627776) (st : St) (hn : s.length + 60 ≤ n) : Ev Try.prog ov1 ro n 29 [(V.str (s))] st (fun v st' => v = (.b (isClean s)) ∧ st' = st) := by
  obtain ⟨m, rfl⟩ : ∃ m, n = m + 60 := ⟨n - 60, by omega⟩
  refine Ev.enter rfl Try.func29 rfl rfl rfl (frame1 _) ?_
  refine Wp.seq ?_
  refine Wp.region rfl ?_
  refine Ops.val (Val.assign rfl) rfl ?_
  refine Ops.nil ?_
  refine Wp.seq ?_
  refine Wp.seq ?_
  refine Wp.region rfl ?_
  refine Ops.val (Val.assign rfl) rfl ?_
  refine Ops.nil ?_
  refine Wp.block ?_
  refine Wp.rebase (fun fr1 hF2 => ?_)
  have g3 := (hF2 0).trans (T.get_skip rfl (T.get_skip rfl T.get_same))
  refine Wp.loop (I := fun mm fr sx => ∃ (i : Nat), (i ≤ s.length) ∧ (∀ j : Nat, j < i → dirty (s.getD j 0) = false) ∧ mm = s.length - i ∧ fr.get 3 = some (.i .i64 ((i : Int))) ∧ (∀ t, [2, 3, 4, 5, 6, 7, 8, 9, 10, 11, 12, 13, 14, 15, 16, 17, 18, 19, 20, 21, 22, 23, 24, 25].elem t = false → fr.get t = fr1.get t) ∧ st = sx) s.length (by omega) ⟨0, (by omega), (fun j hj => by omega), rfl, (hF2 3).trans T.get_same, fun t _ => rfl, rfl⟩ (fun mm fr sx hI => ?_)
  obtain ⟨i, hi, hall, rfl, g4, hW5, rfl⟩ := hI
  refine Wp.seq ?_
  refine Wp.seq ?_
  refine Wp.region rfl ?_
  refine Ops.val (Val.move g4) rfl ?_
  refine Ops.val (Val.move (T.get_skip rfl ((hW5 0 rfl).trans g3))) rfl ?_
  refine Ops.val (Val.slen Try.underlying9 T.get_same) rfl ?_
  refine Ops.val (Val.lss (T.get_skip rfl (T.get_skip rfl T.get_same)) T.get_same) rfl ?_
  refine Ops.nil ?_
  refine Wp.cond T.get_same (fun hc6 => ?_) (fun hc6 => ?_)
  · skip
    have p7 := of_decide_eq_true hc6
    refine Wp.skip ?_
    refine Wp.seq ?_
    refine Wp.block ?_
    refine Wp.seq ?_
    refine Wp.region rfl ?_
    refine Ops.val (Val.move (T.get_skip rfl (T.get_skip rfl (T.get_skip rfl (T.get_skip rfl ((hW5 0 rfl).trans g3)))))) rfl ?_
    refine Ops.val (Val.move (T.get_skip rfl (T.get_skip rfl (T.get_skip rfl (T.get_skip rfl (T.get_skip rfl g4)))))) rfl ?_
    refine Ops.val (Val.sidx (i := i) Try.underlying9 (T.get_skip rfl T.get_same) T.get_same (by omega)) rfl ?_
    refine Ops.val (Val.ieql T.get_same rfl) rfl ?_
    refine Ops.val (Val.move T.get_same) rfl ?_
    refine Ops.cutN 5 [15, 16, 17, 18, 19] 19 (.b ((decide (((s.getD i 0).toNat : Int) = 0)) || (decide (((s.getD i 0).toNat : Int) = 12)))) ?_ (fun fr10 g8 hF9 => ?_)
    · rcases Bool.eq_false_or_eq_true (decide (((s.getD i 0).toNat : Int) = 0)) with hg11 | hg11
      · skip
        refine Ops.no rfl T.get_same hg11 rfl ?_
        refine Ops.no rfl (T.get_skip rfl T.get_same) hg11 rfl ?_
        refine Ops.no rfl (T.get_skip rfl (T.get_skip rfl T.get_same)) hg11 rfl ?_
        refine Ops.no rfl (T.get_skip rfl (T.get_skip rfl (T.get_skip rfl T.get_same))) hg11 rfl ?_
        refine Ops.val (Val.pickT (T.get_skip rfl (T.get_skip rfl (T.get_skip rfl (T.get_skip rfl T.get_same)))) hg11 rfl) rfl ?_
        exact Ops.nil ⟨T.get_same.trans (cutOT hg11), fun t ht => (T.get_skip (el ht rfl) (T.get_skip (el ht rfl) (T.get_skip (el ht rfl) (T.get_skip (el ht rfl) (T.get_skip (el ht rfl) rfl))))), rfl⟩
      · skip
        have p12 := of_decide_eq_false hg11
        refine Ops.yes rfl T.get_same hg11 ?_
        refine Ops.val (Val.move (T.get_skip rfl (T.get_skip rfl (T.get_skip rfl (T.get_skip rfl (T.get_skip rfl (T.get_skip rfl (T.get_skip rfl (T.get_skip rfl (T.get_skip rfl ((hW5 0 rfl).trans g3))))))))))) rfl ?_
        refine Ops.yes rfl (T.get_skip rfl T.get_same) hg11 ?_
        refine Ops.val (Val.move (T.get_skip rfl (T.get_skip rfl (T.get_skip rfl (T.get_skip rfl (T.get_skip rfl (T.get_skip rfl (T.get_skip rfl (T.get_skip rfl (T.get_skip rfl (T.get_skip rfl g4))))))))))) rfl ?_
        refine Ops.yes rfl (T.get_skip rfl (T.get_skip rfl T.get_same)) hg11 ?_
        refine Ops.val (Val.sidx (i := i) Try.underlying9 (T.get_skip rfl T.get_same) T.get_same (by omega)) rfl ?_
        refine Ops.yes rfl (T.get_skip rfl (T.get_skip rfl (T.get_skip rfl T.get_same))) hg11 ?_
        refine Ops.val (Val.ieql T.get_same rfl) rfl ?_
        refine Ops.val (Val.pickF (T.get_skip rfl (T.get_skip rfl (T.get_skip rfl (T.get_skip rfl T.get_same)))) hg11 T.get_same) rfl ?_
        exact Ops.nil ⟨T.get_same.trans (cutOF hg11), fun t ht => (T.get_skip (el ht rfl) (T.get_skip (el ht rfl) (T.get_skip (el ht rfl) (T.get_skip (el ht rfl) (T.get_skip (el ht rfl) rfl))))), rfl⟩
    refine Ops.val (Val.move g8) rfl ?_
    refine Ops.cutN 5 [21, 22, 23, 24, 25] 25 (.b (((decide (((s.getD i 0).toNat : Int) = 0)) || (decide (((s.getD i 0).toNat : Int) = 12))) || (decide (((s.getD i 0).toNat : Int) = 13)))) ?_ (fun fr15 g13 hF14 => ?_)
    · rcases Bool.eq_false_or_eq_true ((decide (((s.getD i 0).toNat : Int) = 0)) || (decide (((s.getD i 0).toNat : Int) = 12))) with hg16 | hg16
      · skip
        refine Ops.no rfl T.get_same hg16 rfl ?_
        refine Ops.no rfl (T.get_skip rfl T.get_same) hg16 rfl ?_
        refine Ops.no rfl (T.get_skip rfl (T.get_skip rfl T.get_same)) hg16 rfl ?_
        refine Ops.no rfl (T.get_skip rfl (T.get_skip rfl (T.get_skip rfl T.get_same))) hg16 rfl ?_
        refine Ops.val (Val.pickT (T.get_skip rfl (T.get_skip rfl (T.get_skip rfl (T.get_skip rfl T.get_same)))) hg16 rfl) rfl ?_
        exact Ops.nil ⟨T.get_same.trans (cutOT hg16), fun t ht => (T.get_skip (el ht rfl) (T.get_skip (el ht rfl) (T.get_skip (el ht rfl) (T.get_skip (el ht rfl) (T.get_skip (el ht rfl) rfl))))), rfl⟩
      · skip
        have p18 := of_decide_eq_false (orL hg16)
        have p19 := of_decide_eq_false (orR hg16)
        refine Ops.yes rfl T.get_same hg16 ?_
        refine Ops.val (Val.move (T.get_skip rfl ((hF9 0 rfl).trans (T.get_skip rfl (T.get_skip rfl (T.get_skip rfl (T.get_skip rfl (T.get_skip rfl (T.get_skip rfl (T.get_skip rfl (T.get_skip rfl (T.get_skip rfl ((hW5 0 rfl).trans g3))))))))))))) rfl ?_
        refine Ops.yes rfl (T.get_skip rfl T.get_same) hg16 ?_
        refine Ops.val (Val.move (T.get_skip rfl (T.get_skip rfl ((hF9 3 rfl).trans (T.get_skip rfl (T.get_skip rfl (T.get_skip rfl (T.get_skip rfl (T.get_skip rfl (T.get_skip rfl (T.get_skip rfl (T.get_skip rfl (T.get_skip rfl g4))))))))))))) rfl ?_
        refine Ops.yes rfl (T.get_skip rfl (T.get_skip rfl T.get_same)) hg16 ?_
        refine Ops.val (Val.sidx (i := i) Try.underlying9 (T.get_skip rfl T.get_same) T.get_same (by omega)) rfl ?_
        refine Ops.yes rfl (T.get_skip rfl (T.get_skip rfl (T.get_skip rfl T.get_same))) hg16 ?_
        refine Ops.val (Val.ieql T.get_same rfl) rfl ?_
        refine Ops.val (Val.pickF (T.get_skip rfl (T.get_skip rfl (T.get_skip rfl (T.get_skip rfl T.get_same)))) hg16 T.get_same) rfl ?_
        exact Ops.nil ⟨T.get_same.trans (cutOF hg16), fun t ht => (T.get_skip (el ht rfl) (T.get_skip (el ht rfl) (T.get_skip (el ht rfl) (T.get_skip (el ht rfl) (T.get_skip (el ht rfl) rfl))))), rfl⟩
    refine Ops.nil ?_
    refine Wp.cond g13 (fun hc20 => ?_) (fun hc20 => ?_)
    · skip
      have p21 : (((((s.getD i 0).toNat : Int) = 0) ∨ (((s.getD i 0).toNat : Int) = 12)) ∨ (((s.getD i 0).toNat : Int) = 13)) := orT (iffO iffD iffD) iffD hc20
      refine Wp.seq ?_
      refine Wp.region rfl ?_
      refine Ops.val (Val.assign rfl) rfl ?_
      refine Ops.nil ?_
      refine Wp.ret ?_
      show Vm.Fin Try.prog Try.f29 (fun v st' => v = (.b (isClean s)) ∧ st' = st) .ret _ _
      refine Fin.one (.inr rfl) rfl T.get_same ?_
      exact ⟨by first | rw [isClean_not (i := i) (by omega) (dirty_of (by first | assumption | omega))] | rw [isClean_yes (fun j hj => hall j (by omega))], rfl⟩
    · skip
      have p24 := of_decide_eq_false (orL (orL hc20))
      have p25 := of_decide_eq_false (orR (orL hc20))
      have p26 := of_decide_eq_false (orR hc20)
      refine Wp.skip ?_
      refine Wp.region rfl ?_
      refine Ops.val (Val.move ((hF14 3 rfl).trans (T.get_skip rfl ((hF9 3 rfl).trans (T.get_skip rfl (T.get_skip rfl (T.get_skip rfl (T.get_skip rfl (T.get_skip rfl (T.get_skip rfl (T.get_skip rfl (T.get_skip rfl (T.get_skip rfl g4))))))))))))) rfl ?_
      refine Ops.val (Val.iadd T.get_same rfl (c := ((i : Int) + 1)) (wrap64 (by omega) (by omega))) rfl ?_
      refine Ops.val (Val.assign T.get_same) rfl ?_
      refine Ops.nil ?_
      exact ⟨_, (by omega), i + 1, (by omega), (fun j hj => by rcases Nat.lt_or_eq_of_le (Nat.lt_succ_iff.1 hj) with h | h; exact hall j h; subst h; exact not_dirty (by first | assumption | omega)), rfl, T.get_same, fun t ht => (T.get_skip (el ht rfl) (T.get_skip (el ht rfl) (T.get_skip (el ht rfl) ((hF14 t (elW ht rfl)).trans (T.get_skip (el ht rfl) ((hF9 t (elW ht rfl)).trans (T.get_skip (el ht rfl) (T.get_skip (el ht rfl) (T.get_skip (el ht rfl) (T.get_skip (el ht rfl) (T.get_skip (el ht rfl) (T.get_skip (el ht rfl) (T.get_skip (el ht rfl) (T.get_skip (el ht rfl) (T.get_skip (el ht rfl) (hW5 t ht)))))))))))))))), rfl⟩
  · skip
    have p27 := of_decide_eq_false hc6
    refine Wp.exit ?_
    refine Wp.seq ?_
    refine Wp.region rfl ?_
    refine Ops.val (Val.assign rfl) rfl ?_
    refine Ops.nil ?_
    refine Wp.ret ?_
    show Vm.Fin Try.prog Try.f29 (fun v st' => v = (.b (isClean s)) ∧ st' = st) .ret _ _
    refine Fin.one (.inr rfl) rfl T.get_same ?_
    exact ⟨by first | rw [isClean_not (i := i) (by omega) (dirty_of (by first | assumption | omega))] | rw [isClean_yes (fun j hj => hall j (by omega))], rfl⟩

theorem rcheck_ev (s : List UInt8) (hs : s.length ≤ 1099511627776) (st : St) (hn : s.length + 120 ≤ n) : Ev Try.prog ov1 ro n 22 [(V.str (s))] st (fun v st' => v = (.i .i64 (check s)) ∧ st' = st) := by
  obtain ⟨m, rfl⟩ : ∃ m, n = m + 60 := ⟨n - 60, by omega⟩
  refine Ev.enter rfl Try.func22 rfl rfl rfl (frame1 _) ?_
  refine Wp.seq ?_
  refine Wp.region rfl ?_
  refine Ops.val (Val.assign rfl) rfl ?_
  refine Ops.nil ?_
  refine Wp.seq ?_
  refine Wp.seq ?_
  refine Wp.region rfl ?_
  refine Ops.val (Val.move (T.get_skip rfl T.get_same)) rfl ?_
  refine Ops.val (Val.slen Try.underlying9 T.get_same) rfl ?_
  refine Ops.val (Val.gtr T.get_same rfl) rfl ?_
  refine Ops.nil ?_
  refine Wp.cond T.get_same (fun hc1 => ?_) (fun hc1 => ?_)
  · skip
    have p2 := of_decide_eq_true hc1
    refine Wp.seq ?_
    refine Wp.region rfl ?_
    refine Ops.val (Val.assign rfl) rfl ?_
    refine Ops.nil ?_
    refine Wp.ret ?_
    show Vm.Fin Try.prog Try.f22 (fun v st' => v = (.i .i64 (check s)) ∧ st' = st) .ret _ _
    refine Fin.one (.inr rfl) rfl T.get_same ?_
    exact ⟨by first | rw [check_long (by omega)] | rw [check_bad (by omega) (by assumption)] | rw [check_ok (by omega) (by assumption)], rfl⟩
  · skip
    have p3 := of_decide_eq_false hc1
    refine Wp.skip ?_
    refine Wp.seq ?_
    refine Wp.seq ?_
    refine Wp.region rfl ?_
    refine Ops.val (Val.move (T.get_skip rfl (T.get_skip rfl (T.get_skip rfl (T.get_skip rfl T.get_same))))) rfl ?_
    refine Ops.call (opndsC T.get_same opnds0) rfl (is_ev _ (by first | assumption | omega) _ (by omega)) ?_
    rintro _ _ ⟨rfl, hq⟩
    obtain rfl := Eq.symm hq
    refine Ops.val (Val.not T.get_same) rfl ?_
    refine Ops.nil ?_
    refine Wp.cond T.get_same (fun hc4 => ?_) (fun hc4 => ?_)
    · skip
      have p6 := (notB hc4)
      refine Wp.seq ?_
      refine Wp.region rfl ?_
      refine Ops.val (Val.assign rfl) rfl ?_
      refine Ops.nil ?_
      refine Wp.ret ?_
      show Vm.Fin Try.prog Try.f22 (fun v st' => v = (.i .i64 (check s)) ∧ st' = st) .ret _ _
      refine Fin.one (.inr rfl) rfl T.get_same ?_
      exact ⟨by first | rw [check_long (by omega)] | rw [check_bad (by omega) (by assumption)] | rw [check_ok (by omega) (by assumption)], rfl⟩
    · skip
      have p8 := (notB hc4)
      refine Wp.skip ?_
      refine Wp.seq ?_
      refine Wp.region rfl ?_
      refine Ops.val (Val.assign rfl) rfl ?_
      refine Ops.nil ?_
      refine Wp.ret ?_
      show Vm.Fin Try.prog Try.f22 (fun v st' => v = (.i .i64 (check s)) ∧ st' = st) .ret _ _
      refine Fin.one (.inr rfl) rfl T.get_same ?_
      exact ⟨by first | rw [check_long (by omega)] | rw [check_bad (by omega) (by assumption)] | rw [check_ok (by omega) (by assumption)], rfl⟩

theorem ends_ev (s : List UInt8) (hs : s.length ≤ 1099511627776) (st : St) (hn : s.length + 60 ≤ n) : Ev Try.prog ov1 ro n 28 [(V.str (s))] st (fun v st' => v = (.i .i64 ((ends s : Int))) ∧ st' = st) := by
  obtain ⟨m, rfl⟩ : ∃ m, n = m + 60 := ⟨n - 60, by omega⟩
  refine Ev.enter rfl Try.func28 rfl rfl rfl (frame1 _) ?_
  refine Wp.seq ?_
  refine Wp.region rfl ?_
  refine Ops.val (Val.assign rfl) rfl ?_
  refine Ops.nil ?_
  refine Wp.seq ?_
  refine Wp.region rfl ?_
  refine Ops.val (Val.assign rfl) rfl ?_
  refine Ops.nil ?_
  refine Wp.seq ?_
  refine Wp.seq ?_
  refine Wp.region rfl ?_
  refine Ops.val (Val.assign rfl) rfl ?_
  refine Ops.nil ?_
  refine Wp.block ?_
  refine Wp.rebase (fun fr1 hF2 => ?_)
  have g3 := (hF2 0).trans (T.get_skip rfl (T.get_skip rfl (T.get_skip rfl T.get_same)))
  have g4 := (hF2 2).trans (T.get_skip rfl (T.get_skip rfl T.get_same))
  refine Wp.loop (I := fun mm fr sx => ∃ (i : Nat), (i ≤ s.length) ∧ mm = s.length - i ∧ fr.get 4 = some (.i .i64 ((i : Int))) ∧ fr.get 3 = some (.i .i64 ((ends (s.take i) : Int))) ∧ (∀ t, [3, 4, 5, 6, 7, 8, 9, 10, 11, 12, 13, 14, 15, 16].elem t = false → fr.get t = fr1.get t) ∧ st = sx) s.length (by omega) ⟨0, (by omega), rfl, (hF2 4).trans T.get_same, (hF2 3).trans (T.get_skip rfl T.get_same), fun t _ => rfl, rfl⟩ (fun mm fr sx hI => ?_)
  obtain ⟨i, hi, rfl, g5, g6, hW7, rfl⟩ := hI
  have hle := ends_le (s.take i)
  rw [List.length_take] at hle
  refine Wp.seq ?_
  refine Wp.seq ?_
  refine Wp.region rfl ?_
  refine Ops.val (Val.move g5) rfl ?_
  refine Ops.val (Val.move (T.get_skip rfl ((hW7 0 rfl).trans g3))) rfl ?_
  refine Ops.val (Val.slen Try.underlying9 T.get_same) rfl ?_
  refine Ops.val (Val.lss (T.get_skip rfl (T.get_skip rfl T.get_same)) T.get_same) rfl ?_
  refine Ops.nil ?_
  refine Wp.cond T.get_same (fun hc8 => ?_) (fun hc8 => ?_)
  · skip
    have p9 := of_decide_eq_true hc8
    refine Wp.skip ?_
    refine Wp.seq ?_
    refine Wp.block ?_
    refine Wp.seq ?_
    refine Wp.region rfl ?_
    refine Ops.val (Val.move (T.get_skip rfl (T.get_skip rfl (T.get_skip rfl (T.get_skip rfl ((hW7 0 rfl).trans g3)))))) rfl ?_
    refine Ops.val (Val.move (T.get_skip rfl (T.get_skip rfl (T.get_skip rfl (T.get_skip rfl (T.get_skip rfl g5)))))) rfl ?_
    refine Ops.val (Val.sidx (i := i) Try.underlying9 (T.get_skip rfl T.get_same) T.get_same (by omega)) rfl ?_
    refine Ops.val (Val.ieql T.get_same rfl) rfl ?_
    refine Ops.nil ?_
    refine Wp.cond T.get_same (fun hc10 => ?_) (fun hc10 => ?_)
    · skip
      have p11 := of_decide_eq_true hc10
      refine Wp.region rfl ?_
      refine Ops.val (Val.move (T.get_skip rfl (T.get_skip rfl (T.get_skip rfl (T.get_skip rfl (T.get_skip rfl (T.get_skip rfl (T.get_skip rfl (T.get_skip rfl g6))))))))) rfl ?_
      refine Ops.val (Val.iadd T.get_same rfl (c := ((ends (s.take i) : Int) + 1)) (wrap64 (by omega) (by omega))) rfl ?_
      refine Ops.val (Val.assign T.get_same) rfl ?_
      refine Ops.nil ?_
      refine Wp.region rfl ?_
      refine Ops.val (Val.move (T.get_skip rfl (T.get_skip rfl (T.get_skip rfl (T.get_skip rfl (T.get_skip rfl (T.get_skip rfl (T.get_skip rfl (T.get_skip rfl (T.get_skip rfl (T.get_skip rfl (T.get_skip rfl g5)))))))))))) rfl ?_
      refine Ops.val (Val.iadd T.get_same rfl (c := ((i : Int) + 1)) (wrap64 (by omega) (by omega))) rfl ?_
      refine Ops.val (Val.assign T.get_same) rfl ?_
      refine Ops.nil ?_
      exact ⟨_, (by omega), i + 1, (by omega), rfl, T.get_same, ((T.get_skip rfl (T.get_skip rfl (T.get_skip rfl T.get_same))).trans (by first | rw [ends_yes (by omega) (by assumption)]; rfl | rw [ends_no (by omega) (by assumption)])), fun t ht => (T.get_skip (el ht rfl) (T.get_skip (el ht rfl) (T.get_skip (el ht rfl) (T.get_skip (el ht rfl) (T.get_skip (el ht rfl) (T.get_skip (el ht rfl) (T.get_skip (el ht rfl) (T.get_skip (el ht rfl) (T.get_skip (el ht rfl) (T.get_skip (el ht rfl) (T.get_skip (el ht rfl) (T.get_skip (el ht rfl) (T.get_skip (el ht rfl) (T.get_skip (el ht rfl) (hW7 t ht))))))))))))))), rfl⟩
    · skip
      have p12 := of_decide_eq_false hc10
      refine Wp.skip ?_
      refine Wp.region rfl ?_
      refine Ops.val (Val.move (T.get_skip rfl (T.get_skip rfl (T.get_skip rfl (T.get_skip rfl (T.get_skip rfl (T.get_skip rfl (T.get_skip rfl (T.get_skip rfl g5))))))))) rfl ?_
      refine Ops.val (Val.iadd T.get_same rfl (c := ((i : Int) + 1)) (wrap64 (by omega) (by omega))) rfl ?_
      refine Ops.val (Val.assign T.get_same) rfl ?_
      refine Ops.nil ?_
      exact ⟨_, (by omega), i + 1, (by omega), rfl, T.get_same, ((T.get_skip rfl (T.get_skip rfl (T.get_skip rfl (T.get_skip rfl (T.get_skip rfl (T.get_skip rfl (T.get_skip rfl (T.get_skip rfl (T.get_skip rfl (T.get_skip rfl (T.get_skip rfl g6))))))))))).trans (by first | rw [ends_yes (by omega) (by assumption)]; rfl | rw [ends_no (by omega) (by assumption)])), fun t ht => (T.get_skip (el ht rfl) (T.get_skip (el ht rfl) (T.get_skip (el ht rfl) (T.get_skip (el ht rfl) (T.get_skip (el ht rfl) (T.get_skip (el ht rfl) (T.get_skip (el ht rfl) (T.get_skip (el ht rfl) (T.get_skip (el ht rfl) (T.get_skip (el ht rfl) (T.get_skip (el ht rfl) (hW7 t ht)))))))))))), rfl⟩
  · skip
    have p13 := of_decide_eq_false hc8
    refine Wp.exit ?_
    refine Wp.seq ?_
    refine Wp.region rfl ?_
    refine Ops.val (Val.move (T.get_skip rfl (T.get_skip rfl (T.get_skip rfl (T.get_skip rfl g6))))) rfl ?_
    refine Ops.val (Val.assign T.get_same) rfl ?_
    refine Ops.nil ?_
    refine Wp.ret ?_
    show Vm.Fin Try.prog Try.f28 (fun v st' => v = (.i .i64 ((ends s : Int))) ∧ st' = st) .ret _ _
    refine Fin.one (.inr rfl) rfl T.get_same ?_
    exact ⟨by rw [List.take_of_length_le (by omega)], rfl⟩

theorem startsEnd_ev (s : List UInt8) (st : St) (hn : 60 ≤ n) : Ev Try.prog ov1 ro n 25 [(V.str (s))] st (fun v st' => v = (.b (decide ((0 : Int) < (s.length : Int)) && decide (((s.getD 0 0).toNat : Int) = 10))) ∧ st' = st) := by
  obtain ⟨m, rfl⟩ : ∃ m, n = m + 60 := ⟨n - 60, by omega⟩
  refine Ev.enter rfl Try.func25 rfl rfl rfl (frame1 _) ?_
  refine Wp.seq ?_
  refine Wp.region rfl ?_
  refine Ops.val (Val.assign rfl) rfl ?_
  refine Ops.nil ?_
  refine Wp.seq ?_
  refine Wp.region rfl ?_
  refine Ops.val (Val.move (T.get_skip rfl T.get_same)) rfl ?_
  refine Ops.val (Val.slen Try.underlying9 T.get_same) rfl ?_
  refine Ops.val (Val.gtr T.get_same rfl) rfl ?_
  refine Ops.val (Val.move T.get_same) rfl ?_
  refine Ops.cutN 4 [7, 8, 9, 10] 10 (.b ((decide (0 < (s.length : Int))) && (decide (((s.getD 0 0).toNat : Int) = 10)))) ?_ (fun fr3 g1 hF2 => ?_)
  · rcases Bool.eq_false_or_eq_true (decide (0 < (s.length : Int))) with hg4 | hg4
    · skip
      have p5 := of_decide_eq_true hg4
      refine Ops.yes rfl T.get_same hg4 ?_
      refine Ops.val (Val.move (T.get_skip rfl (T.get_skip rfl (T.get_skip rfl (T.get_skip rfl (T.get_skip rfl T.get_same)))))) rfl ?_
      refine Ops.yes rfl (T.get_skip rfl T.get_same) hg4 ?_
      refine Ops.val (Val.sidx (i := 0) Try.underlying9 T.get_same rfl (by omega)) rfl ?_
      refine Ops.yes rfl (T.get_skip rfl (T.get_skip rfl T.get_same)) hg4 ?_
      refine Ops.val (Val.ieql T.get_same rfl) rfl ?_
      refine Ops.val (Val.pickT (T.get_skip rfl (T.get_skip rfl (T.get_skip rfl T.get_same))) hg4 T.get_same) rfl ?_
      exact Ops.nil ⟨T.get_same.trans (cutAT hg4), fun t ht => (T.get_skip (el ht rfl) (T.get_skip (el ht rfl) (T.get_skip (el ht rfl) (T.get_skip (el ht rfl) rfl)))), rfl⟩
    · skip
      refine Ops.no rfl T.get_same hg4 rfl ?_
      refine Ops.no rfl (T.get_skip rfl T.get_same) hg4 rfl ?_
      refine Ops.no rfl (T.get_skip rfl (T.get_skip rfl T.get_same)) hg4 rfl ?_
      refine Ops.val (Val.pickF (T.get_skip rfl (T.get_skip rfl (T.get_skip rfl T.get_same))) hg4 rfl) rfl ?_
      exact Ops.nil ⟨T.get_same.trans (cutAF hg4), fun t ht => (T.get_skip (el ht rfl) (T.get_skip (el ht rfl) (T.get_skip (el ht rfl) (T.get_skip (el ht rfl) rfl)))), rfl⟩
  refine Ops.val (Val.assign g1) rfl ?_
  refine Ops.nil ?_
  refine Wp.ret ?_
  show Vm.Fin Try.prog Try.f25 (fun v st' => v = (.b (decide ((0 : Int) < (s.length : Int)) && decide (((s.getD 0 0).toNat : Int) = 10))) ∧ st' = st) .ret _ _
  refine Fin.one (.inr rfl) rfl T.get_same ?_
  exact ⟨rfl, rfl⟩

theorem great_ev (s : List UInt8) (st : St) (hn : 60 ≤ n) : Ev Try.prog ov1 ro n 18 [(V.str (s))] st (fun v st' => v = (.b ((decide ((500 : Int) < (s.length : Int)) && decide ((s.length : Int) ≤ 4000)) || decide ((12100 : Int) < (s.length : Int)))) ∧ st' = st) := by
  obtain ⟨m, rfl⟩ : ∃ m, n = m + 60 := ⟨n - 60, by omega⟩
  refine Ev.enter rfl Try.func18 rfl rfl rfl (frame1 _) ?_
  refine Wp.seq ?_
  refine Wp.region rfl ?_
  refine Ops.val (Val.assign rfl) rfl ?_
  refine Ops.nil ?_
  refine Wp.seq ?_
  refine Wp.region rfl ?_
  refine Ops.val (Val.move (T.get_skip rfl T.get_same)) rfl ?_
  refine Ops.val (Val.slen Try.underlying9 T.get_same) rfl ?_
  refine Ops.val (Val.gtr T.get_same rfl) rfl ?_
  refine Ops.val (Val.move T.get_same) rfl ?_
  refine Ops.cutN 4 [7, 8, 9, 10] 10 (.b ((decide (500 < (s.length : Int))) && (decide ((s.length : Int) ≤ 4000)))) ?_ (fun fr3 g1 hF2 => ?_)
  · rcases Bool.eq_false_or_eq_true (decide (500 < (s.length : Int))) with hg4 | hg4
    · skip
      have p5 := of_decide_eq_true hg4
      refine Ops.yes rfl T.get_same hg4 ?_
      refine Ops.val (Val.move (T.get_skip rfl (T.get_skip rfl (T.get_skip rfl (T.get_skip rfl (T.get_skip rfl T.get_same)))))) rfl ?_
      refine Ops.yes rfl (T.get_skip rfl T.get_same) hg4 ?_
      refine Ops.val (Val.slen Try.underlying9 T.get_same) rfl ?_
      refine Ops.yes rfl (T.get_skip rfl (T.get_skip rfl T.get_same)) hg4 ?_
      refine Ops.val (Val.leq T.get_same rfl) rfl ?_
      refine Ops.val (Val.pickT (T.get_skip rfl (T.get_skip rfl (T.get_skip rfl T.get_same))) hg4 T.get_same) rfl ?_
      exact Ops.nil ⟨T.get_same.trans (cutAT hg4), fun t ht => (T.get_skip (el ht rfl) (T.get_skip (el ht rfl) (T.get_skip (el ht rfl) (T.get_skip (el ht rfl) rfl)))), rfl⟩
    · skip
      refine Ops.no rfl T.get_same hg4 rfl ?_
      refine Ops.no rfl (T.get_skip rfl T.get_same) hg4 rfl ?_
      refine Ops.no rfl (T.get_skip rfl (T.get_skip rfl T.get_same)) hg4 rfl ?_
      refine Ops.val (Val.pickF (T.get_skip rfl (T.get_skip rfl (T.get_skip rfl T.get_same))) hg4 rfl) rfl ?_
      exact Ops.nil ⟨T.get_same.trans (cutAF hg4), fun t ht => (T.get_skip (el ht rfl) (T.get_skip (el ht rfl) (T.get_skip (el ht rfl) (T.get_skip (el ht rfl) rfl)))), rfl⟩
  refine Ops.val (Val.move g1) rfl ?_
  refine Ops.cutN 4 [12, 13, 14, 15] 15 (.b (((decide (500 < (s.length : Int))) && (decide ((s.length : Int) ≤ 4000))) || (decide (12100 < (s.length : Int))))) ?_ (fun fr8 g6 hF7 => ?_)
  · rcases Bool.eq_false_or_eq_true ((decide (500 < (s.length : Int))) && (decide ((s.length : Int) ≤ 4000))) with hg9 | hg9
    · skip
      refine Ops.no rfl T.get_same hg9 rfl ?_
      refine Ops.no rfl (T.get_skip rfl T.get_same) hg9 rfl ?_
      refine Ops.no rfl (T.get_skip rfl (T.get_skip rfl T.get_same)) hg9 rfl ?_
      refine Ops.val (Val.pickT (T.get_skip rfl (T.get_skip rfl (T.get_skip rfl T.get_same))) hg9 rfl) rfl ?_
      exact Ops.nil ⟨T.get_same.trans (cutOT hg9), fun t ht => (T.get_skip (el ht rfl) (T.get_skip (el ht rfl) (T.get_skip (el ht rfl) (T.get_skip (el ht rfl) rfl)))), rfl⟩
    · skip
      have p10 : ¬ ((500 < (s.length : Int)) ∧ ((s.length : Int) ≤ 4000)) := andF iffD iffD hg9
      refine Ops.yes rfl T.get_same hg9 ?_
      refine Ops.val (Val.move (T.get_skip rfl ((hF2 0 rfl).trans (T.get_skip rfl (T.get_skip rfl (T.get_skip rfl (T.get_skip rfl (T.get_skip rfl T.get_same)))))))) rfl ?_
      refine Ops.yes rfl (T.get_skip rfl T.get_same) hg9 ?_
      refine Ops.val (Val.slen Try.underlying9 T.get_same) rfl ?_
      refine Ops.yes rfl (T.get_skip rfl (T.get_skip rfl T.get_same)) hg9 ?_
      refine Ops.val (Val.gtr T.get_same rfl) rfl ?_
      refine Ops.val (Val.pickF (T.get_skip rfl (T.get_skip rfl (T.get_skip rfl T.get_same))) hg9 T.get_same) rfl ?_
      exact Ops.nil ⟨T.get_same.trans (cutOF hg9), fun t ht => (T.get_skip (el ht rfl) (T.get_skip (el ht rfl) (T.get_skip (el ht rfl) (T.get_skip (el ht rfl) rfl)))), rfl⟩
  refine Ops.val (Val.assign g6) rfl ?_
  refine Ops.nil ?_
  refine Wp.ret ?_
  show Vm.Fin Try.prog Try.f18 (fun v st' => v = (.b ((decide ((500 : Int) < (s.length : Int)) && decide ((s.length : Int) ≤ 4000)) || decide ((12100 : Int) < (s.length : Int)))) ∧ st' = st) .ret _ _
  refine Fin.one (.inr rfl) rfl T.get_same ?_
  exact ⟨rfl, rfl⟩

end Go.Proofs.Ytonihkpcblfafaa
