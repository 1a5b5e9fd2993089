/-
  The walk of WorldBag.
-/
import Derived.Test.YthpamcfemhimcaaBagOps
namespace Go.Proofs.Ythpamcfemhimcaa
open Go.RowKit Go.Shelf
attribute [local go_sem] Oper.semAt_some

set_option maxRecDepth 100000 in
set_option maxHeartbeats 4000000 in
theorem bag_walk (n : Int) (ap : Option Addr) (np cp : Nat) (xs : List QX) (w : World) (O : QsAt w ap np cp xs) :
    Calls Try.prog 4 #[.int .i64 n, .slice ap np cp] w fun e w' => e = .returned (.bool true) ∧ Below w.heap.size w w' := by
  have hlen := O.len
  have hcap := O.cap
  have HO : Hid (QsAt w ap np cp xs) := O
  clear O
  have hwi := within_any w n 20 (by decide) (by decide)
  have hs0 := Int.emod_nonneg n (show (20 : Int) ≠ 0 by decide)
  have hs1 := Int.emod_lt_of_pos n (show (0 : Int) < 20 by decide)
  obtain ⟨mm, hmm⟩ : ∃ mm : Nat, n % 20 = (mm : Int) := ⟨(n % 20).toNat, by omega⟩
  rw [hmm] at hwi hs0 hs1
  have hm20 : mm < 20 := by omega
  have hw1 : IntKind.i64.wrap (1 + (mm : Int)) = 1 + (mm : Int) := by rw [IntKind.wrap_i64]; omega
  clear hmm
  refine (callsIn_wide (n := 9)).1 ?_
  refine callsIn_of_wp_marks Try.func4 rfl trivial ?_ rfl
  simp only [Try.ntmps4, List.size_toArray, List.length_cons, List.length_nil, Nat.reduceAdd, Nat.reduceSub, Array.replicate_succ, Array.replicate_zero, List.push_toArray, List.append_toArray, List.nil_append, List.cons_append]
  refine wpIn_wide.2 ?_
  go_wp2_with (first
    | (go_at_call 8; refine hwi.mono ?_; rintro e w0 ⟨rfl, hw0⟩; subst w0; clear hwi)
    | (go_at_call 5; refine (newNet_any _ _).mono ?_; rintro e w1 ⟨rfl, N1, K1, hz1⟩; have HN1 : Hid _ := N1; have HK1 : Hid _ := K1; have HZ1 : Hid _ := hz1; clear N1 K1 hz1)
    | fail)
  have HB0 : Hid _ := BSt.new HN1.out HK1.out HZ1.out 50
  clear HN1 HK1 HZ1
  generalize w1.alloc (.cells #[.int .i64 0, .int .i64 0, .int .i64 0, .int .i64 0, .int .i64 0, .int .i64 0, .int .i64 0, .int .i64 0, .int .i64 0, .int .i64 0, .int .i64 0, .int .i64 0, .int .i64 0, .int .i64 0, .int .i64 0, .int .i64 0, .int .i64 0, .int .i64 0, .int .i64 0, .int .i64 0] 50) = w3 at *
  generalize w1.heap.size = cb at *
  obtain ⟨d, hd⟩ : ∃ d, d = w.heap.size := ⟨_, rfl⟩
  rw [← hd] at HB0 ⊢
  clear hd
  go_loopw [8] (fun i wr => ∃ (k : Nat) (l : List PX), i = .int .i64 k ∧ k ≤ mm + 1 ∧ l.length = k ∧ BSt w wr d cb l) (fun i _ => mm + 1 - (Go.RowKit.intOf i).toNat)
  case atStart => exact ⟨0, [], rfl, by omega, rfl, HB0.out⟩
  case round =>
    obtain ⟨k, l, rfl, hk, hl, B⟩ := hrel
    by_cases hlt : k < mm + 1
    · obtain ⟨S, v, ps, N, hpl, hS⟩ := B.net
      have hg1 : (k : Int) < 1 + (mm : Int) := by omega
      have hu8 : IntKind.u8.wrap (k : Int) = (k : Int) := by rw [IntKind.wrap_u8]; omega
      have K0 : Kept (fun _ => False) wr (wr.alloc (.cells #[.int .u8 (k : Int)] 5)) := Kept.alloc _ _ _
      have B0 : BytesAt (wr.alloc (.cells #[.int .u8 (k : Int)] 5)) (some ⟨wr.heap.size, 0, none⟩) 1 1 [(k : Int)] := by
        refine ⟨rfl, Nat.le_refl _, fun e => (by cases e), fun ad e j u hu => ?_, fun y hy => ?_⟩
        · cases e
          match j with
          | 0 =>
            simp at hu
            subst hu
            rw [Addr.add_lit]
            exact (one (heap_alloc_new wr _)).1
          | j + 1 => simp at hu
        · simp at hy; omega
      have hlen2 : ps.length = k := by rw [lenX hpl]; exact hl
      have hSn := netSend_any (N.keptN K0) (by omega) 1 2 (some ⟨wr.heap.size, 0, none⟩) 1 1 [(k : Int)] B0 (by decide)
      have e1 : decide ((1000 : Int) ≤ (ps.length : Int)) = false := by simp; omega
      have e2 : sendX 1000 (ps.map PV.pure) (1, 2, [(k : Int)]) = l ++ [(1, 2, [(k : Int)])] := by
        unfold sendX
        rw [if_neg (by rw [List.length_map]; omega), hpl]
      rw [e1, e2] at hSn
      have fin := fun (w2 : World) (T : NetTo 53 (hdW 1000) (wr.alloc (.cells #[.int .u8 (k : Int)] 5)) S d (l ++ [(1, 2, [(k : Int)])]) w2) => BSt.inc (B.kept K0 (fun _ h => h.elim)) hS (show k < 20 by omega) rfl T
      have HF : Hid _ := fin
      have hcv := cntL_bd l k
      have Hl : Hid _ := hl
      have hk20 : (k : Int) < 20 := by omega
      have hk0 : (0 : Int) ≤ (k : Int) := by omega
      have hcv1 : cntL l k ≤ 200 := by omega
      have hcv0 := hcv.1
      generalize cntL l k = cv at *
      clear hcv fin B0 N B e1 e2 hpl hlen2 hl
      go_wp2_with (first
        | (go_at_call 10; refine hSn.mono ?_; rintro e w2 ⟨rfl, T2⟩; clear hSn; obtain ⟨⟨c2, f2⟩, B2⟩ := HF.out w2 T2; have HB2 : Hid _ := B2; clear T2 B2)
        | fail)
      go_roundw
      case rel => exact ⟨k + 1, l ++ [(1, 2, [(k : Int)])], by go_num, by omega, by rw [List.length_append]; have := Hl.out; simp; omega, HB2.out⟩
      case measure => simp [Go.RowKit.intOf]; omega
    · obtain rfl : k = mm + 1 := by omega
      have hno : ¬ ((mm + 1 : Nat) : Int) < 1 + (mm : Int) := by omega
      have HB : Hid _ := B
      have Hl : Hid _ := hl
      clear B hl
      go_wp2_with fail
      go_loopw [9] (fun i wr => ∃ (k : Nat) (l : List PX), k ≤ np ∧ k ≤ 100 ∧ i = .int .i64 k ∧ l.length ≤ 20 + k ∧ BSt w wr d cb l) (fun i _ => np - (Go.RowKit.intOf i).toNat)
      case atStart => exact ⟨0, l, Nat.zero_le _, Nat.zero_le _, rfl, by have := Hl.out; omega, HB.out⟩
      case round =>
        obtain ⟨k, l, hk, hk2, rfl, hl, B⟩ := hrel
        by_cases hgo : k < np ∧ k < 100
        · obtain ⟨hkn, hk3⟩ := hgo
          have hc1 : (k : Int) < (np : Int) := by omega
          have hc2 : (k : Int) < 100 := by omega
          obtain ⟨x, b, off, rfl, hbl, QC, QB, QL⟩ := HO.out.at B.below hkn
          obtain ⟨q0, q1, q2, q3, q4⟩ := QC
          obtain ⟨S, v, ps, N, hpl, hS⟩ := B.net
          have K0 : Kept (fun _ => False) wr (wr.alloc (.cells #[.int .i64 x.dd, .int .i64 x.ii, .int .i64 x.fr, .int .i64 x.to, .slice x.ba x.bm x.bc] 31)) := Kept.alloc _ _ _
          have hx0 := heap_alloc_new wr (.cells #[.int .i64 x.dd, .int .i64 x.ii, .int .i64 x.fr, .int .i64 x.to, .slice x.ba x.bm x.bc] 31)
          have hz0 : (wr.alloc (.cells #[.int .i64 x.dd, .int .i64 x.ii, .int .i64 x.fr, .int .i64 x.to, .slice x.ba x.bm x.bc] 31)).heap.size = wr.heap.size + 1 := by simp
          have N0 := N.keptN K0
          have B0 := B.kept K0 (fun _ h => h.elim)
          have hlp := lenX hpl
          have hLk := netLook_any N0 x.ii
          rw [hpl] at hLk
          have hwi := fun W => within_any W x.dd 3 (by decide) (by decide)
          have hm0 := Int.emod_nonneg x.dd (show (3 : Int) ≠ 0 by decide)
          have hm3 := Int.emod_lt_of_pos x.dd (show (0 : Int) < 3 by decide)
          clear QB QL
          cases hin : inB l.length x.ii with
          | false =>
            have e1 : atX l x.ii = none := by simp [atX, hin]
            rw [e1] at hLk
            unfold Given CopyOf at hLk
            simp only [Option.getD_none, Option.isSome_none, px0, List.length_nil] at hLk
            have hno := inB_no hin
            have hLn := fun (w1 : World) (a1 : Option Addr) (c1 : Nat) (K1 : Kept (fun _ => False) (wr.alloc (.cells #[.int .i64 x.dd, .int .i64 x.ii, .int .i64 x.fr, .int .i64 x.to, .slice x.ba x.bm x.bc] 31)) w1) (m : Nat) => netLen_any (N0.keptN ((K1.and (Kept.alloc (fun _ => False) w1 (.cells #[.int .i64 0, .int .i64 0, .slice a1 0 c1] 29))).and (Kept.drewN _ _ m)))
            rw [hlp] at hLn
            have h1 := fun (w1 : World) (a1 : Option Addr) (c1 : Nat) (K1 : Kept (fun _ => False) (wr.alloc (.cells #[.int .i64 x.dd, .int .i64 x.ii, .int .i64 x.fr, .int .i64 x.to, .slice x.ba x.bm x.bc] 31)) w1) => (five (((K1.and (Kept.alloc (fun _ => False) w1 (.cells #[.int .i64 0, .int .i64 0, .slice a1 0 c1] 29))).block wr.heap.size (by omega) (fun h => h)).trans hx0)).2.1
            have HLn : Hid _ := hLn
            have H1 : Hid _ := h1
            have HB0 : Hid _ := B0
            clear hLn h1 B0 N N0 B e1 hin hx0 hz0 hpl hlp
            by_cases hi : x.ii < 0
            · have hd : decide (0 ≤ x.ii) = false := by simpa using hi
              go_wp2_with (first
                | (go_at_call 21; refine hLk.mono ?_; rintro e w1 ⟨⟨a1, c1, rfl, ho1, _, _⟩, K1⟩; clear hLk; have y1 := H1.out w1 a1 c1 K1; have hLn := HLn.out w1 a1 c1 K1)
                | fail)
              go_quiet ((go_at_call 23; exact Calls.quiet_of_same (hLn _)))
              go_wp2
              go_roundw
              case rel => exact ⟨k + 1, l, by omega, by omega, by go_num, by omega, BSt.kept HB0.out ((K1.and (Kept.alloc (fun _ => False) _ _)).and (Kept.drewN _ _ _)) (fun _ h => h.elim)⟩
              case measure => simp [Go.RowKit.intOf]; omega
            · have hd : decide (0 ≤ x.ii) = true := by simp; omega
              have hi2 : (l.length : Int) ≤ x.ii := by omega
              have hi3 : decide (x.ii < (l.length : Int)) = false := by simp; omega
              go_wp2_with (first
                | (go_at_call 21; refine hLk.mono ?_; rintro e w1 ⟨⟨a1, c1, rfl, ho1, _, _⟩, K1⟩; clear hLk; have y1 := H1.out w1 a1 c1 K1; have hLn := HLn.out w1 a1 c1 K1)
                | fail)
              go_quiet ((go_at_call 23; exact Calls.quiet_of_same (hLn _)))
              go_wp2
              go_roundw
              case rel => exact ⟨k + 1, l, by omega, by omega, by go_num, by omega, BSt.kept HB0.out ((K1.and (Kept.alloc (fun _ => False) _ _)).and (Kept.drewN _ _ _)) (fun _ h => h.elim)⟩
              case measure => simp [Go.RowKit.intOf]; omega
          | true =>
            obtain ⟨ki, hki, hkl⟩ := inB_yes hin
            obtain ⟨y, hy⟩ : ∃ y, l[ki]? = some y := ⟨l[ki], List.getElem?_eq_getElem hkl⟩
            obtain ⟨bb, hyb, hb20⟩ := B.bag y (List.mem_of_getElem? hy)
            have e1 : atX l x.ii = some y := by
              unfold atX
              rw [hin, if_pos rfl, hki, Int.toNat_natCast]
              exact hy
            rw [e1] at hLk
            unfold Given CopyOf at hLk
            simp only [Option.getD_some, Option.isSome_some, hyb, List.length_cons, List.length_nil, Nat.zero_add, List.map_cons, List.map_nil] at hLk
            have hLn := fun (w1 : World) (a1 : Option Addr) (c1 : Nat) (fr to : Int) (K1 : Kept (fun _ => False) (wr.alloc (.cells #[.int .i64 x.dd, .int .i64 x.ii, .int .i64 x.fr, .int .i64 x.to, .slice x.ba x.bm x.bc] 31)) w1) (m : Nat) => netLen_any (N0.keptN ((K1.and (Kept.alloc (fun _ => False) w1 (.cells #[.int .i64 fr, .int .i64 to, .slice a1 1 c1] 29))).and (Kept.drewN _ _ m)))
            rw [hlp] at hLn
            have h10 := fun (w1 : World) (a1 : Option Addr) (c1 : Nat) (fr to : Int) (K1 : Kept (fun _ => False) (wr.alloc (.cells #[.int .i64 x.dd, .int .i64 x.ii, .int .i64 x.fr, .int .i64 x.to, .slice x.ba x.bm x.bc] 31)) w1) => (five (((K1.and (Kept.alloc (fun _ => False) w1 (.cells #[.int .i64 fr, .int .i64 to, .slice a1 1 c1] 29))).block wr.heap.size (by omega) (fun h => h)).trans hx0)).2.1
            have hall := fun (w1 : World) (a1 : Option Addr) (c1 : Nat) (fr to : Int) (K1 : Kept (fun _ => False) (wr.alloc (.cells #[.int .i64 x.dd, .int .i64 x.ii, .int .i64 x.fr, .int .i64 x.to, .slice x.ba x.bm x.bc] 31)) w1) (ho1 : w1.ownsRow (wr.alloc (.cells #[.int .i64 x.dd, .int .i64 x.ii, .int .i64 x.fr, .int .i64 x.to, .slice x.ba x.bm x.bc] 31)).heap.size 5 1 (.slice a1 1 c1) 1 [.int .u8 (bb : Int)]) (m : Nat) =>
              show ((((w1.alloc (.cells #[.int .i64 fr, .int .i64 to, .slice a1 1 c1] 29)).drewN m).cell? ⟨wr.heap.size, 0, none⟩ = some (.int .i64 x.dd) ∧ ((w1.alloc (.cells #[.int .i64 fr, .int .i64 to, .slice a1 1 c1] 29)).drewN m).cell? ⟨wr.heap.size, 1, none⟩ = some (.int .i64 x.ii)) ∧ ((w1.alloc (.cells #[.int .i64 fr, .int .i64 to, .slice a1 1 c1] 29)).drewN m).heap[w1.heap.size]? = some (.cells #[.int .i64 fr, .int .i64 to, .slice a1 1 c1] 29 (0, 0)) ∧
                (∃ g, a1 = some ⟨g, 0, none⟩ ∧ wr.heap.size < g ∧ g < ((w1.alloc (.cells #[.int .i64 fr, .int .i64 to, .slice a1 1 c1] 29)).drewN m).heap.size ∧ ((w1.alloc (.cells #[.int .i64 fr, .int .i64 to, .slice a1 1 c1] 29)).drewN m).cell? ⟨g, 0, none⟩ = some (.int .u8 (bb : Int))) ∧ BytesAt ((w1.alloc (.cells #[.int .i64 fr, .int .i64 to, .slice a1 1 c1] 29)).drewN m) a1 1 c1 [(bb : Int)] ∧
                NetW 1000 ((w1.alloc (.cells #[.int .i64 fr, .int .i64 to, .slice a1 1 c1] 29)).drewN m) S d v ps ∧ BSt w ((w1.alloc (.cells #[.int .i64 fr, .int .i64 to, .slice a1 1 c1] 29)).drewN m) d cb l ∧ wr.heap.size < w1.heap.size ∧ w1.heap.size < ((w1.alloc (.cells #[.int .i64 fr, .int .i64 to, .slice a1 1 c1] 29)).drewN m).heap.size) by
                have KA : Kept (fun _ => False) w1 ((w1.alloc (.cells #[.int .i64 fr, .int .i64 to, .slice a1 1 c1] 29)).drewN m) := (Kept.alloc _ _ _).and (Kept.drewN _ _ m)
                have KW : Kept (fun _ => False) (wr.alloc (.cells #[.int .i64 x.dd, .int .i64 x.ii, .int .i64 x.fr, .int .i64 x.to, .slice x.ba x.bm x.bc] 31)) ((w1.alloc (.cells #[.int .i64 fr, .int .i64 to, .slice a1 1 c1] 29)).drewN m) := K1.and KA
                have hz1 := K1.size
                have hzA : ((w1.alloc (.cells #[.int .i64 fr, .int .i64 to, .slice a1 1 c1] 29)).drewN m).heap.size = w1.heap.size + 1 := by simp
                obtain ⟨e0, e1, _, _, _⟩ := five ((KW.block wr.heap.size (by omega) (fun h => h)).trans hx0)
                have ho2 := ownsRow_blk ho1 (fun k hk => KA.block k (ho1.lt k hk).2 (fun h => h))
                have BQ : BytesAt ((w1.alloc (.cells #[.int .i64 fr, .int .i64 to, .slice a1 1 c1] 29)).drewN m) a1 1 c1 [(bb : Int)] := BytesAt.ofRow (b := [(bb : Int)]) ho2 (fun u hu => by simp at hu; omega)
                obtain ⟨g, cap, eg, _, hgl⟩ := ho1.form (by omega)
                simp only [Value.slice.injEq] at eg
                obtain ⟨rfl, _, rfl⟩ := eg
                have hg := ho1.lt g rfl
                refine ⟨⟨e0, e1⟩, ((Kept.drewN (fun _ => False) _ m).block w1.heap.size (by simp) (fun h => h)).trans (heap_alloc_new w1 _), ⟨g, rfl, by omega, by omega, ?_⟩, BQ, N0.keptN KW, B0.kept KW (fun _ h => h.elim), by omega, by omega⟩
                have := BQ.cells ⟨g, 0, none⟩ rfl 0 _ rfl
                simpa [Addr.add_lit] using this
            have hSlt : ∀ k, S k → k < wr.heap.size := fun k hk => N.bnd k hk
            have HA : Hid _ := hall
            have H10 : Hid _ := h10
            have HLn : Hid _ := hLn
            have hd : decide (0 ≤ x.ii) = true := by simp; omega
            have hi0 : 0 ≤ x.ii := by omega
            have hi2 : x.ii < (l.length : Int) := by omega
            have hi3 : decide (x.ii < (l.length : Int)) = true := by simpa using hi2
            have hcv := cntL_bd l bb
            have hcv0 := hcv.1
            have hcv1 : cntL l bb ≤ 200 := by omega
            have hbb0 : (0 : Int) ≤ (bb : Int) := by omega
            have hbb1 : (bb : Int) < 20 := by omega
            have Hki : Hid (x.ii = (ki : Int)) := hki
            have Hy : Hid (l[ki]? = some y) := hy
            have Hyb : Hid (y.2.2 = [(bb : Int)]) := hyb
            have Hpl : Hid (ps.map PV.pure = l) := hpl
            have HSl : Hid (∀ k, S k → k < wr.heap.size) := hSlt
            clear hLn hall h10 B0 N N0 B e1 hin hx0 hz0 hpl hlp hcv hki hy hyb hSlt
            go_wp2_with (first
              | (go_at_call 21; refine hLk.mono ?_; rintro e w1 ⟨⟨a1, c1, rfl, ho1, _, _⟩, K1⟩; clear hLk; have y1 := H10.out w1 a1 c1 y.1 y.2.1 K1; have hLn := HLn.out w1 a1 c1 y.1 y.2.1 K1)
              | fail)
            go_quiet ((go_at_call 23; exact Calls.quiet_of_same (hLn _)))
            obtain ⟨⟨z0, z1⟩, hpb, ⟨g, rfl, hg1, hg2, zg⟩, BQ, N5, B5, hpb1, hpb2⟩ := HA.out w1 a1 c1 y.1 y.2.1 K1 ho1 nq
            clear y1 hLn ho1 K1 HA H10 HLn
            generalize (w1.alloc (.cells #[.int .i64 y.1, .int .i64 y.2.1, .slice (some ⟨g, 0, none⟩) 1 c1] 29)).drewN nq = W5 at *
            generalize w1.heap.size = pb at *
            obtain ⟨q0, q1, q2, _⟩ := three hpb
            have hm : x.dd % 3 = 0 ∨ x.dd % 3 = 1 ∨ x.dd % 3 = 2 := by omega
            have HW : Hid (BSt w W5 d cb l) := B5
            have HS : Hid (∀ k, S k → w.heap.size ≤ k ∧ k ≠ cb) := hS
            rcases hm with hm | hm | hm
            · have hTk := bagTake N5 Hpl.out Hki.out Hy.out Hyb.out
              simp only [hm] at hwi
              have hdn := fun (w7 : World) (a2 : Option Addr) (c2 : Nat) (T : NetTo 53 (hdW 1000) W5 S d (l.eraseIdx ki) w7) (BQ2 : BytesAt w7 a2 1 c2 [(bb : Int)]) =>
                show ((w7.alloc (.cells #[.int .i64 y.1, .int .i64 y.2.1, .slice a2 1 c2] 29)).cell? ⟨pb, 2, none⟩ = some (.slice (some ⟨g, 0, none⟩) 1 c1) ∧ (convert 27 9 (.slice a2 1 c2)).run Try.prog (w7.alloc (.cells #[.int .i64 y.1, .int .i64 y.2.1, .slice a2 1 c2] 29)) = .ok (.string (strOfNums [(bb : Int)])) (w7.alloc (.cells #[.int .i64 y.1, .int .i64 y.2.1, .slice a2 1 c2] 29)) ∧ (convert 27 9 (.slice (some ⟨g, 0, none⟩) 1 c1)).run Try.prog (w7.alloc (.cells #[.int .i64 y.1, .int .i64 y.2.1, .slice a2 1 c2] 29)) = .ok (.string (strOfNums [(bb : Int)])) (w7.alloc (.cells #[.int .i64 y.1, .int .i64 y.2.1, .slice a2 1 c2] 29))) ∧ _ by
                  have KA : Kept (fun _ => False) w7 (w7.alloc (.cells #[.int .i64 y.1, .int .i64 y.2.1, .slice a2 1 c2] 29)) := Kept.alloc _ _ _
                  have T2 := T.andN KA
                  obtain ⟨S', v', ps', N', hl', K', hS'⟩ := T2
                  have hn : ∀ k, wr.heap.size < k → ¬ S k := fun k hk h => by have := HSl.out k h; omega
                  refine ⟨⟨(three ((K'.block pb hpb2 (hn _ hpb1)).trans hpb)).2.2.1, (BQ2.kept KA (fun _ _ _ h => h)).str, (BQ.kept K' (fun _ ad e => by cases e; exact hn _ hg1)).str⟩, ?_⟩
                  exact BSt.dec HW.out HS.out hb20 Hy.out Hyb.out ⟨S', v', ps', N', hl', K', hS'⟩
              have HD : Hid _ := hdn
              generalize cntL l bb = cv at *
              clear hdn N5 B5 BQ hpb hS
              go_wp2_with (first
                | (go_at_call 8; refine (hwi _).mono ?_; rintro e w6 ⟨rfl, hw6⟩; subst w6)
                | (go_at_call 13; refine hTk.mono ?_; rintro e w7 ⟨⟨a2, c2, rfl, BQ2⟩, T7⟩; clear hTk; obtain ⟨⟨t2, s1, s2⟩, ⟨c7, f7⟩, B7⟩ := HD.out w7 a2 c2 T7 BQ2; have HB7 : Hid _ := B7; clear T7 B7 BQ2)
                | fail)
              go_roundw
              case rel => exact ⟨k + 1, l.eraseIdx ki, by omega, by omega, by go_num, by have := List.length_eraseIdx_le l ki; omega, HB7.out⟩
              case measure => simp [Go.RowKit.intOf]; omega
            · have hDr := bagDrop N5 Hpl.out Hki.out Hy.out
              simp only [hm] at hwi
              have hdn := fun (w7 : World) (T : NetTo 53 (hdW 1000) W5 S d (l.eraseIdx ki) w7) => BSt.dec HW.out HS.out hb20 Hy.out Hyb.out T
              have HD : Hid _ := hdn
              generalize cntL l bb = cv at *
              clear hdn N5 B5 BQ hpb hS
              go_wp2_with (first
                | (go_at_call 8; refine (hwi _).mono ?_; rintro e w6 ⟨rfl, hw6⟩; subst w6)
                | (go_at_call 17; refine hDr.mono ?_; rintro e w7 ⟨rfl, T7⟩; clear hDr; obtain ⟨⟨c7, f7⟩, B7⟩ := HD.out w7 T7; have HB7 : Hid _ := B7; clear T7 B7)
                | fail)
              go_roundw
              case rel => exact ⟨k + 1, l.eraseIdx ki, by omega, by omega, by go_num, by have := List.length_eraseIdx_le l ki; omega, HB7.out⟩
              case measure => simp [Go.RowKit.intOf]; omega
            · have hDb := bagDouble N5 Hpl.out (by omega) Hki.out Hy.out
              simp only [hm] at hwi
              have hdn := fun (w7 : World) (T : NetTo 53 (hdW 1000) W5 S d (l ++ [y]) w7) => BSt.inc HW.out HS.out hb20 Hyb.out T
              have HD : Hid _ := hdn
              generalize cntL l bb = cv at *
              clear hdn N5 B5 BQ hpb hS
              go_wp2_with (first
                | (go_at_call 8; refine (hwi _).mono ?_; rintro e w6 ⟨rfl, hw6⟩; subst w6)
                | (go_at_call 19; refine hDb.mono ?_; rintro e w7 ⟨rfl, T7⟩; clear hDb; obtain ⟨⟨c7, f7⟩, B7⟩ := HD.out w7 T7; have HB7 : Hid _ := B7; clear T7 B7)
                | fail)
              go_roundw
              case rel => exact ⟨k + 1, l ++ [y], by omega, by omega, by go_num, by rw [List.length_append]; simp; omega, HB7.out⟩
              case measure => simp [Go.RowKit.intOf]; omega
        · have hex : ¬ (k : Int) < (np : Int) ∨ ((k : Int) < (np : Int) ∧ ¬ (k : Int) < 100) := by omega
          obtain ⟨S, v, ps, N, hpl, hS⟩ := B.net
          have hcb := B.cnt.lt
          have hlo := B.lo
          have HB9 : Hid (BSt w wr d cb l) := B
          clear B
          rcases hex with h | ⟨h, h'⟩
          · go_wp2_with (first
              | (go_at_call 24; refine (netAll_any _ _).mono ?_; rintro e w5 ⟨rfl, hw5⟩; subst w5)
              | fail)
            have qn := heap_alloc_new wr (.cells #[.pointer (some ⟨d, 0, none⟩)] 23)
            have KA : Kept (fun _ => False) wr (wr.alloc (.cells #[.pointer (some ⟨d, 0, none⟩)] 23)) := Kept.alloc _ _ _
            have hzA : (wr.alloc (.cells #[.pointer (some ⟨d, 0, none⟩)] 23)).heap.size = wr.heap.size + 1 := by simp
            generalize hWA : wr.alloc (.cells #[.pointer (some ⟨d, 0, none⟩)] 23) = WA at *
            clear hWA
            refine (wpIn_wide (n := 9)).1 (range_of rfl (by decide) (gf := 31) (lb := #[.pointer (some ⟨wr.heap.size, 0, none⟩)]) rfl trivial (enters_of Try.func31 (by kernel_rfl) rfl) ?_)
            intro rc hfn hst hpend htm hpa has hbo
            have hreq : ({ rc with state := .ready, pending := none } : Loop) = rc := by
              cases rc
              simp only [] at hst hpend
              subst hst hpend
              rfl
            have K3 : Kept (fun _ => False) WA ((WA.alloc (.deferred (some []))).alloc (.loop rc)) := (Kept.alloc _ _ _).and (Kept.alloc _ _ _)
            have hL3 : ((WA.alloc (.deferred (some []))).alloc (.loop rc)).heap[WA.heap.size + 1]? = some (.loop rc) := (heap_two WA _ _).2
            have hD3 : ((WA.alloc (.deferred (some []))).alloc (.loop rc)).heap[WA.heap.size]? = some (.deferred (some [])) := (heap_two WA _ _).1
            have hz3 : ((WA.alloc (.deferred (some []))).alloc (.loop rc)).heap.size = WA.heap.size + 2 := by simp
            generalize hW3 : (WA.alloc (.deferred (some []))).alloc (.loop rc) = W3 at *
            clear hW3
            have KW : Kept (fun _ => False) wr W3 := KA.and K3
            have hM : ∀ b, (b = cb ∨ b = WA.heap.size + 1) → b < W3.heap.size ∧ ¬ S b := fun b hb => by
              refine ⟨by omega, fun hs => ?_⟩
              have h1 := N.bnd b hs
              have h2 := hS b hs
              omega
            refine (nAll_in 8 (by decide) (WA.heap.size + 1) wr.heap.size d 1000 S (fun b => b = cb ∨ b = WA.heap.size + 1) v ps (fun k V => BJ (fun b => b = cb ∨ b = WA.heap.size + 1) W3 cb (WA.heap.size + 1) rc l k V) (fun _ => False) W3 (N.keptN KW) hM (fun k A B h K => h.keep (by omega) (by omega) K) (fun A B h K => h) ?_ ?_ ?_).mono ?_
            · rintro k2 p a c V J hp hown
              have hx : l[k2]? = some p.pure := by rw [← hpl, List.getElem?_map, hp]; rfl
              obtain ⟨bb, hxb, hb20⟩ := HB9.out.bag p.pure (List.mem_of_getElem? hx)
              have hpb : p.bs = [(bb : Int)] := hxb
              simp only [hpb, List.length_cons, List.length_nil, List.map_cons, List.map_nil, Nat.zero_add] at hown ⊢
              obtain ⟨g, cap, eg, _, hgl⟩ := hown.form (by omega)
              simp only [Value.slice.injEq] at eg
              obtain ⟨rfl, _, rfl⟩ := eg
              have hVz := J.kept.size
              have hVlt := (Array.getElem?_eq_some_iff.1 J.rc_).1
              have hg := hown.lt g rfl
              refine yield_gen (a1 := ?a1LA) (W2 := V.alloc (.cells #[.int .i64 p.fr, .int .i64 p.to, .slice (some ⟨g, 0, none⟩) 1 c] 29)) J.rc_ hst htm hpa has hbo rfl hfn ((Below.heap_alloc _ _ _ hVlt).trans J.rc_) ?hAA ?hBA
              case hAA =>
                intro K hK
                gi_wp2
                exact hK
              case hBA =>
                have HREQ : Hid _ := hreq
                clear htm hpa has hbo hst hpend hreq
                have KP : Kept (fun b => b = WA.heap.size + 1) (V.alloc (.cells #[.int .i64 p.fr, .int .i64 p.to, .slice (some ⟨g, 0, none⟩) 1 c] 29)) ((V.alloc (.cells #[.int .i64 p.fr, .int .i64 p.to, .slice (some ⟨g, 0, none⟩) 1 c] 29)).putObj (WA.heap.size + 1) (.loop { rc with state := .busy })) := Kept.putObj _ _ _ rfl
                have hzV : (V.alloc (.cells #[.int .i64 p.fr, .int .i64 p.to, .slice (some ⟨g, 0, none⟩) 1 c] 29)).heap.size = V.heap.size + 1 := by simp
                have K1V : Kept (fun b => b = WA.heap.size + 1) V ((V.alloc (.cells #[.int .i64 p.fr, .int .i64 p.to, .slice (some ⟨g, 0, none⟩) 1 c] 29)).putObj (WA.heap.size + 1) (.loop { rc with state := .busy })) := ((Kept.alloc _ _ _).and KP)
                have hl1 := heap_putObj_same (W := V.alloc (.cells #[.int .i64 p.fr, .int .i64 p.to, .slice (some ⟨g, 0, none⟩) 1 c] 29)) (l := WA.heap.size + 1) (.loop { rc with state := .busy }) (by rw [hzV]; omega)
                have xp := (KP.block V.heap.size (by rw [hzV]; omega) (fun e => by have e' : V.heap.size = WA.heap.size + 1 := e; omega)).trans (heap_alloc_new V _)
                have hcg := hown.cells (g := g) rfl 0 _ rfl
                rw [Addr.add_lit] at hcg
                generalize hV1 : (V.alloc (.cells #[.int .i64 p.fr, .int .i64 p.to, .slice (some ⟨g, 0, none⟩) 1 c] 29)).putObj (WA.heap.size + 1) (.loop { rc with state := .busy }) = V1 at *
                clear hV1 KP
                obtain ⟨_, _, x2, _⟩ := three xp
                have xg : V1.cell? ⟨g, 0, none⟩ = some (.int .u8 (bb : Int)) := (World.cell?_of_block (K1V.block g hg.2 (fun e => by have e' : g = WA.heap.size + 1 := e; omega))).trans hcg
                have C1 := J.cnt.kept K1V (fun e => by have e' : cb = WA.heap.size + 1 := e; omega)
                have C2 := cntRound C1 hx hxb hb20
                obtain ⟨xc, xf⟩ := C1.cell bb hb20
                have KMV : Kept (fun b => b = cb ∨ b = WA.heap.size + 1) V V1 := K1V.mono (fun b e => .inr e)
                have hcv := cntL_bd l bb
                have hcw := cntL_bd (l.take k2) bb
                have hlt := List.length_take_le k2 l
                have hkl := (List.getElem?_eq_some_iff.1 hx).1
                obtain ⟨cv, hcve⟩ : ∃ cv, cv = cntL l bb - cntL (l.take k2) bb := ⟨_, rfl⟩
                rw [← hcve] at xc C2
                have hc1 : -200 ≤ cv := by omega
                have hc2 : cv ≤ 200 := by omega
                have hbb0 : (0 : Int) ≤ (bb : Int) := by omega
                have hbb1 : (bb : Int) < 20 := by omega
                have fin : (V1.setCell ⟨cb, bb, none⟩ (.int .i64 (cv - 1))).heap[WA.heap.size + 1]? = some (.loop { rc with state := .busy }) ∧ BJ (fun b => b = cb ∨ b = WA.heap.size + 1) W3 cb (WA.heap.size + 1) rc l (k2 + 1) ((V1.setCell ⟨cb, bb, none⟩ (.int .i64 (cv - 1))).putObj (WA.heap.size + 1) (.loop rc)) ∧ Kept (fun b => b = cb ∨ b = WA.heap.size + 1) V ((V1.setCell ⟨cb, bb, none⟩ (.int .i64 (cv - 1))).putObj (WA.heap.size + 1) (.loop rc)) := by
                  have hL := (Below.heap_setCell V1 ⟨cb, bb, none⟩ (.int .i64 (cv - 1)) (WA.heap.size + 1) (by show WA.heap.size + 1 ≠ cb; omega)).trans hl1
                  have KV : Kept (fun b => b = cb ∨ b = WA.heap.size + 1) V ((V1.setCell ⟨cb, bb, none⟩ (.int .i64 (cv - 1))).putObj (WA.heap.size + 1) (.loop rc)) := (KMV.and (Kept.setCell _ _ _ (.inl rfl))).and (Kept.putObj _ _ _ (.inr rfl))
                  refine ⟨hL, ⟨J.kept.and KV, ?_, heap_putObj_same _ (Array.getElem?_eq_some_iff.1 hL).1⟩, KV⟩
                  exact C2.kept (Kept.putObj (S := fun b => b = WA.heap.size + 1) _ _ _ rfl) (fun e => by have e' : cb = WA.heap.size + 1 := e; omega)
                have HF : Hid _ := fin
                clear fin C1 C2 J hl1 xp KMV K1V hcve hcv hcw hlt hzV hzA hz3 hVz hown hcg
                gi_wp2
                rw [HREQ.out]
                exact HF.out
            · exact (one ((K3.block wr.heap.size (by omega) (fun h => h)).trans qn)).1
            · refine ⟨Kept.refl _ _, ?_, hL3⟩
              have := HB9.out.cnt.kept KW (fun h => h)
              refine ⟨fun j hj => ?_⟩
              obtain ⟨c0, f0⟩ := this.cell j hj
              refine ⟨c0.trans ?_, f0⟩
              simp [cntL_nil]
            · rintro e V ⟨⟨v9, rfl⟩, J | X⟩
              · have hVz := J.kept.size
                have BV : Below w.heap.size w V := (HB9.out.below.trans (KW.below HB9.out.below.size (fun _ h => h.elim))).trans (J.kept.below (by have := HB9.out.below.size; omega) (fun b hb => by have := HB9.out.below.size; omega))
                have hVd := (J.kept.block WA.heap.size (by omega) (fun h => by omega)).trans hD3
                refine ⟨⟨_, rfl⟩, rc, J.rc_, by rw [hst]; decide, .inl ⟨hpend, ?_⟩⟩
                have KP : Kept (fun b => b = WA.heap.size + 1) V (V.putObj (WA.heap.size + 1) (.loop { rc with state := .exhausted })) := Kept.putObj _ _ _ rfl
                have xd := (KP.block WA.heap.size (by omega) (fun e => by have e' : WA.heap.size = WA.heap.size + 1 := e; omega)).trans hVd
                have CP := J.cnt.kept KP (fun e => by have e' : cb = WA.heap.size + 1 := e; omega)
                have hcz : ∀ j, cntL l j - cntL (l.take ps.length) j = 0 := fun j => by rw [lenX hpl, List.take_length]; omega
                have hz9 := HB9.out.below.size
                have BP : Below w.heap.size w (V.putObj (WA.heap.size + 1) (.loop { rc with state := .exhausted })) := BV.trans (KP.below BV.size (fun b e => by have e' : b = WA.heap.size + 1 := e; omega))
                have hcell : ∀ j, j < 20 → (V.putObj (WA.heap.size + 1) (.loop { rc with state := .exhausted })).cell? ⟨cb, j, none⟩ = some (.int .i64 0) := fun j hj => by
                  have := (CP.cell j hj).1
                  rw [this]
                  exact congrArg _ (congrArg _ (hcz j))
                have hWz : w.heap.size ≤ WA.heap.size := by omega
                have HWz : Hid _ := hWz
                have hPz := KP.size
                have hVd2 := (Array.getElem?_eq_some_iff.1 xd).1
                clear KP J hVd BV htm hpa has hbo hst hpend hreq CP hcz hcb
                generalize V.putObj (WA.heap.size + 1) (.loop { rc with state := .exhausted }) = V2 at *
                have fin : ∀ w9, Kept (fun _ => False) V2 w9 → w9.heap[WA.heap.size]? = some (.deferred (some [])) ∧ Below w.heap.size w (w9.putObj WA.heap.size (.deferred none)) := fun w9 K => by
                  refine ⟨(K.block _ hVd2 (fun h => h)).trans xd, ?_⟩
                  have KF : Kept (fun b => w.heap.size ≤ b) V2 (w9.putObj WA.heap.size (.deferred none)) := (K.mono (fun _ h => h.elim)).and (Kept.putObj _ _ _ HWz.out)
                  exact BP.trans (KF.below BP.size (fun _ h => h))
                have HF : Hid _ := fin
                have HC : Hid _ := hcell
                clear fin hcell xd hzA hz3 hVz hPz hVd2 hWz hz9
                go_wp2_with fail
                go_loopw [18] (fun i V => ∃ q : Nat, i = .int .i64 q ∧ q ≤ 20 ∧ V = V2) (fun i _ => 20 - (Go.RowKit.intOf i).toNat)
                case atStart => exact ⟨0, rfl, by omega, rfl⟩
                case round =>
                  obtain ⟨q, rfl, hq, rfl⟩ := hrel
                  by_cases hqq : q < 20
                  · have hq1 : (q : Int) < 20 := by omega
                    have hq0 : (0 : Int) ≤ (q : Int) := by omega
                    have xq := HC.out q hqq
                    go_wp2_with fail
                    go_roundw
                    case rel => exact ⟨q + 1, by go_num, by omega, by first | rfl | trivial⟩
                    case measure => simp [Go.RowKit.intOf]; omega
                  · obtain rfl : q = 20 := by omega
                    go_wp2_with (first
                      | (go_at_call 25; refine (wakes_any _).mono ?_; rintro e w9 ⟨rfl, K9⟩)
                      | fail)
                    obtain ⟨hKd, hbl⟩ := HF.out w9 K9
                    refine ⟨by simp, .inl ⟨_, _, rfl, run_takeDeferred hKd, ?_⟩⟩
                    refine ⟨.bool true, ?_, rfl, hbl⟩
                    simp [results, Try.f4, go_sem]
              · exact X.elim
          · go_wp2_with (first
              | (go_at_call 24; refine (netAll_any _ _).mono ?_; rintro e w5 ⟨rfl, hw5⟩; subst w5)
              | fail)
            have qn := heap_alloc_new wr (.cells #[.pointer (some ⟨d, 0, none⟩)] 23)
            have KA : Kept (fun _ => False) wr (wr.alloc (.cells #[.pointer (some ⟨d, 0, none⟩)] 23)) := Kept.alloc _ _ _
            have hzA : (wr.alloc (.cells #[.pointer (some ⟨d, 0, none⟩)] 23)).heap.size = wr.heap.size + 1 := by simp
            generalize hWA : wr.alloc (.cells #[.pointer (some ⟨d, 0, none⟩)] 23) = WA at *
            clear hWA
            refine (wpIn_wide (n := 9)).1 (range_of rfl (by decide) (gf := 31) (lb := #[.pointer (some ⟨wr.heap.size, 0, none⟩)]) rfl trivial (enters_of Try.func31 (by kernel_rfl) rfl) ?_)
            intro rc hfn hst hpend htm hpa has hbo
            have hreq : ({ rc with state := .ready, pending := none } : Loop) = rc := by
              cases rc
              simp only [] at hst hpend
              subst hst hpend
              rfl
            have K3 : Kept (fun _ => False) WA ((WA.alloc (.deferred (some []))).alloc (.loop rc)) := (Kept.alloc _ _ _).and (Kept.alloc _ _ _)
            have hL3 : ((WA.alloc (.deferred (some []))).alloc (.loop rc)).heap[WA.heap.size + 1]? = some (.loop rc) := (heap_two WA _ _).2
            have hD3 : ((WA.alloc (.deferred (some []))).alloc (.loop rc)).heap[WA.heap.size]? = some (.deferred (some [])) := (heap_two WA _ _).1
            have hz3 : ((WA.alloc (.deferred (some []))).alloc (.loop rc)).heap.size = WA.heap.size + 2 := by simp
            generalize hW3 : (WA.alloc (.deferred (some []))).alloc (.loop rc) = W3 at *
            clear hW3
            have KW : Kept (fun _ => False) wr W3 := KA.and K3
            have hM : ∀ b, (b = cb ∨ b = WA.heap.size + 1) → b < W3.heap.size ∧ ¬ S b := fun b hb => by
              refine ⟨by omega, fun hs => ?_⟩
              have h1 := N.bnd b hs
              have h2 := hS b hs
              omega
            refine (nAll_in 8 (by decide) (WA.heap.size + 1) wr.heap.size d 1000 S (fun b => b = cb ∨ b = WA.heap.size + 1) v ps (fun k V => BJ (fun b => b = cb ∨ b = WA.heap.size + 1) W3 cb (WA.heap.size + 1) rc l k V) (fun _ => False) W3 (N.keptN KW) hM (fun k A B h K => h.keep (by omega) (by omega) K) (fun A B h K => h) ?_ ?_ ?_).mono ?_
            · rintro k2 p a c V J hp hown
              have hx : l[k2]? = some p.pure := by rw [← hpl, List.getElem?_map, hp]; rfl
              obtain ⟨bb, hxb, hb20⟩ := HB9.out.bag p.pure (List.mem_of_getElem? hx)
              have hpb : p.bs = [(bb : Int)] := hxb
              simp only [hpb, List.length_cons, List.length_nil, List.map_cons, List.map_nil, Nat.zero_add] at hown ⊢
              obtain ⟨g, cap, eg, _, hgl⟩ := hown.form (by omega)
              simp only [Value.slice.injEq] at eg
              obtain ⟨rfl, _, rfl⟩ := eg
              have hVz := J.kept.size
              have hVlt := (Array.getElem?_eq_some_iff.1 J.rc_).1
              have hg := hown.lt g rfl
              refine yield_gen (a1 := ?a1LB) (W2 := V.alloc (.cells #[.int .i64 p.fr, .int .i64 p.to, .slice (some ⟨g, 0, none⟩) 1 c] 29)) J.rc_ hst htm hpa has hbo rfl hfn ((Below.heap_alloc _ _ _ hVlt).trans J.rc_) ?hAB ?hBB
              case hAB =>
                intro K hK
                gi_wp2
                exact hK
              case hBB =>
                have HREQ : Hid _ := hreq
                clear htm hpa has hbo hst hpend hreq
                have KP : Kept (fun b => b = WA.heap.size + 1) (V.alloc (.cells #[.int .i64 p.fr, .int .i64 p.to, .slice (some ⟨g, 0, none⟩) 1 c] 29)) ((V.alloc (.cells #[.int .i64 p.fr, .int .i64 p.to, .slice (some ⟨g, 0, none⟩) 1 c] 29)).putObj (WA.heap.size + 1) (.loop { rc with state := .busy })) := Kept.putObj _ _ _ rfl
                have hzV : (V.alloc (.cells #[.int .i64 p.fr, .int .i64 p.to, .slice (some ⟨g, 0, none⟩) 1 c] 29)).heap.size = V.heap.size + 1 := by simp
                have K1V : Kept (fun b => b = WA.heap.size + 1) V ((V.alloc (.cells #[.int .i64 p.fr, .int .i64 p.to, .slice (some ⟨g, 0, none⟩) 1 c] 29)).putObj (WA.heap.size + 1) (.loop { rc with state := .busy })) := ((Kept.alloc _ _ _).and KP)
                have hl1 := heap_putObj_same (W := V.alloc (.cells #[.int .i64 p.fr, .int .i64 p.to, .slice (some ⟨g, 0, none⟩) 1 c] 29)) (l := WA.heap.size + 1) (.loop { rc with state := .busy }) (by rw [hzV]; omega)
                have xp := (KP.block V.heap.size (by rw [hzV]; omega) (fun e => by have e' : V.heap.size = WA.heap.size + 1 := e; omega)).trans (heap_alloc_new V _)
                have hcg := hown.cells (g := g) rfl 0 _ rfl
                rw [Addr.add_lit] at hcg
                generalize hV1 : (V.alloc (.cells #[.int .i64 p.fr, .int .i64 p.to, .slice (some ⟨g, 0, none⟩) 1 c] 29)).putObj (WA.heap.size + 1) (.loop { rc with state := .busy }) = V1 at *
                clear hV1 KP
                obtain ⟨_, _, x2, _⟩ := three xp
                have xg : V1.cell? ⟨g, 0, none⟩ = some (.int .u8 (bb : Int)) := (World.cell?_of_block (K1V.block g hg.2 (fun e => by have e' : g = WA.heap.size + 1 := e; omega))).trans hcg
                have C1 := J.cnt.kept K1V (fun e => by have e' : cb = WA.heap.size + 1 := e; omega)
                have C2 := cntRound C1 hx hxb hb20
                obtain ⟨xc, xf⟩ := C1.cell bb hb20
                have KMV : Kept (fun b => b = cb ∨ b = WA.heap.size + 1) V V1 := K1V.mono (fun b e => .inr e)
                have hcv := cntL_bd l bb
                have hcw := cntL_bd (l.take k2) bb
                have hlt := List.length_take_le k2 l
                have hkl := (List.getElem?_eq_some_iff.1 hx).1
                obtain ⟨cv, hcve⟩ : ∃ cv, cv = cntL l bb - cntL (l.take k2) bb := ⟨_, rfl⟩
                rw [← hcve] at xc C2
                have hc1 : -200 ≤ cv := by omega
                have hc2 : cv ≤ 200 := by omega
                have hbb0 : (0 : Int) ≤ (bb : Int) := by omega
                have hbb1 : (bb : Int) < 20 := by omega
                have fin : (V1.setCell ⟨cb, bb, none⟩ (.int .i64 (cv - 1))).heap[WA.heap.size + 1]? = some (.loop { rc with state := .busy }) ∧ BJ (fun b => b = cb ∨ b = WA.heap.size + 1) W3 cb (WA.heap.size + 1) rc l (k2 + 1) ((V1.setCell ⟨cb, bb, none⟩ (.int .i64 (cv - 1))).putObj (WA.heap.size + 1) (.loop rc)) ∧ Kept (fun b => b = cb ∨ b = WA.heap.size + 1) V ((V1.setCell ⟨cb, bb, none⟩ (.int .i64 (cv - 1))).putObj (WA.heap.size + 1) (.loop rc)) := by
                  have hL := (Below.heap_setCell V1 ⟨cb, bb, none⟩ (.int .i64 (cv - 1)) (WA.heap.size + 1) (by show WA.heap.size + 1 ≠ cb; omega)).trans hl1
                  have KV : Kept (fun b => b = cb ∨ b = WA.heap.size + 1) V ((V1.setCell ⟨cb, bb, none⟩ (.int .i64 (cv - 1))).putObj (WA.heap.size + 1) (.loop rc)) := (KMV.and (Kept.setCell _ _ _ (.inl rfl))).and (Kept.putObj _ _ _ (.inr rfl))
                  refine ⟨hL, ⟨J.kept.and KV, ?_, heap_putObj_same _ (Array.getElem?_eq_some_iff.1 hL).1⟩, KV⟩
                  exact C2.kept (Kept.putObj (S := fun b => b = WA.heap.size + 1) _ _ _ rfl) (fun e => by have e' : cb = WA.heap.size + 1 := e; omega)
                have HF : Hid _ := fin
                clear fin C1 C2 J hl1 xp KMV K1V hcve hcv hcw hlt hzV hzA hz3 hVz hown hcg
                gi_wp2
                rw [HREQ.out]
                exact HF.out
            · exact (one ((K3.block wr.heap.size (by omega) (fun h => h)).trans qn)).1
            · refine ⟨Kept.refl _ _, ?_, hL3⟩
              have := HB9.out.cnt.kept KW (fun h => h)
              refine ⟨fun j hj => ?_⟩
              obtain ⟨c0, f0⟩ := this.cell j hj
              refine ⟨c0.trans ?_, f0⟩
              simp [cntL_nil]
            · rintro e V ⟨⟨v9, rfl⟩, J | X⟩
              · have hVz := J.kept.size
                have BV : Below w.heap.size w V := (HB9.out.below.trans (KW.below HB9.out.below.size (fun _ h => h.elim))).trans (J.kept.below (by have := HB9.out.below.size; omega) (fun b hb => by have := HB9.out.below.size; omega))
                have hVd := (J.kept.block WA.heap.size (by omega) (fun h => by omega)).trans hD3
                refine ⟨⟨_, rfl⟩, rc, J.rc_, by rw [hst]; decide, .inl ⟨hpend, ?_⟩⟩
                have KP : Kept (fun b => b = WA.heap.size + 1) V (V.putObj (WA.heap.size + 1) (.loop { rc with state := .exhausted })) := Kept.putObj _ _ _ rfl
                have xd := (KP.block WA.heap.size (by omega) (fun e => by have e' : WA.heap.size = WA.heap.size + 1 := e; omega)).trans hVd
                have CP := J.cnt.kept KP (fun e => by have e' : cb = WA.heap.size + 1 := e; omega)
                have hcz : ∀ j, cntL l j - cntL (l.take ps.length) j = 0 := fun j => by rw [lenX hpl, List.take_length]; omega
                have hz9 := HB9.out.below.size
                have BP : Below w.heap.size w (V.putObj (WA.heap.size + 1) (.loop { rc with state := .exhausted })) := BV.trans (KP.below BV.size (fun b e => by have e' : b = WA.heap.size + 1 := e; omega))
                have hcell : ∀ j, j < 20 → (V.putObj (WA.heap.size + 1) (.loop { rc with state := .exhausted })).cell? ⟨cb, j, none⟩ = some (.int .i64 0) := fun j hj => by
                  have := (CP.cell j hj).1
                  rw [this]
                  exact congrArg _ (congrArg _ (hcz j))
                have hWz : w.heap.size ≤ WA.heap.size := by omega
                have HWz : Hid _ := hWz
                have hPz := KP.size
                have hVd2 := (Array.getElem?_eq_some_iff.1 xd).1
                clear KP J hVd BV htm hpa has hbo hst hpend hreq CP hcz hcb
                generalize V.putObj (WA.heap.size + 1) (.loop { rc with state := .exhausted }) = V2 at *
                have fin : ∀ w9, Kept (fun _ => False) V2 w9 → w9.heap[WA.heap.size]? = some (.deferred (some [])) ∧ Below w.heap.size w (w9.putObj WA.heap.size (.deferred none)) := fun w9 K => by
                  refine ⟨(K.block _ hVd2 (fun h => h)).trans xd, ?_⟩
                  have KF : Kept (fun b => w.heap.size ≤ b) V2 (w9.putObj WA.heap.size (.deferred none)) := (K.mono (fun _ h => h.elim)).and (Kept.putObj _ _ _ HWz.out)
                  exact BP.trans (KF.below BP.size (fun _ h => h))
                have HF : Hid _ := fin
                have HC : Hid _ := hcell
                clear fin hcell xd hzA hz3 hVz hPz hVd2 hWz hz9
                go_wp2_with fail
                go_loopw [18] (fun i V => ∃ q : Nat, i = .int .i64 q ∧ q ≤ 20 ∧ V = V2) (fun i _ => 20 - (Go.RowKit.intOf i).toNat)
                case atStart => exact ⟨0, rfl, by omega, rfl⟩
                case round =>
                  obtain ⟨q, rfl, hq, rfl⟩ := hrel
                  by_cases hqq : q < 20
                  · have hq1 : (q : Int) < 20 := by omega
                    have hq0 : (0 : Int) ≤ (q : Int) := by omega
                    have xq := HC.out q hqq
                    go_wp2_with fail
                    go_roundw
                    case rel => exact ⟨q + 1, by go_num, by omega, by first | rfl | trivial⟩
                    case measure => simp [Go.RowKit.intOf]; omega
                  · obtain rfl : q = 20 := by omega
                    go_wp2_with (first
                      | (go_at_call 25; refine (wakes_any _).mono ?_; rintro e w9 ⟨rfl, K9⟩)
                      | fail)
                    obtain ⟨hKd, hbl⟩ := HF.out w9 K9
                    refine ⟨by simp, .inl ⟨_, _, rfl, run_takeDeferred hKd, ?_⟩⟩
                    refine ⟨.bool true, ?_, rfl, hbl⟩
                    simp [results, Try.f4, go_sem]
              · exact X.elim

end Go.Proofs.Ythpamcfemhimcaa
