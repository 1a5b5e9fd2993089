/-
  The document's New: the same spots as the ring's, the hosts in rising order.
-/
import Derived.Test.YtjfgjmiedmpieaaDoorRRefQ
import Derived.Test.YtjfgjmiedmpieaaDoorRWrong
import Derived.Test.YtjfgjmiedmpieaaDoorRText
import Derived.Test.YtjfgjmiedmpieaaDoorRRef
namespace Go.Proofs.YtjfgjmiedmpieaaDoor
open Go.RowKit Go.Sort

/-- What the document's New answers. -/
def RNewPost (w : World) (zs : List Int) (p : Int) (e : Ending) (w' : World) : Prop :=
  Kept (fun _ => False) w w' ∧
  ((¬ (Right zs ∧ 1 ≤ p ∧ p ≤ 64) ∧ e = .returned (.tuple #[.pointer none, .int .i64 1])) ∨
   (Right zs ∧ 1 ≤ p ∧ p ≤ 64) ∧ ∃ rb l, e = .returned (.tuple #[.pointer (some ⟨rb, 0, none⟩), .int .i64 0]) ∧ l.Perm (allSpots zs p.toNat) ∧ l.Pairwise noLater ∧ QSt w' rb l (refHosts zs 16))

/-- A spot more, in order. -/
theorem put_in {l : List Sp} {x : Sp} {S : List Sp} {k : Nat} (hs : l.Pairwise noLater) (hp : l.Perm S) (hh : ∀ y ∈ S, y.2 ≤ x.2) (hk : PutAt l x k) : (l.take k ++ [x] ++ l.drop k).Pairwise noLater ∧ (l.take k ++ [x] ++ l.drop k).Perm (S ++ [x]) :=
  ⟨put_sorted hs hk (fun y hy => hh y (hp.mem_iff.1 hy)), (put_perm l x k).trans (hp.append_right [x])⟩

theorem spots_hosts {zs : List Int} {h n k : Nat} : ∀ y ∈ allSpots (refHosts zs h) n ++ spotsL h k, y.2 ≤ (h : Int) := by
  intro y hy
  rcases List.mem_append.1 hy with hy | hy
  · obtain ⟨z, hz, j, _, rfl⟩ := mem_allSpots.1 hy
    have := mem_refHosts.1 hz
    show ((z.toNat : Nat) : Int) ≤ _
    omega
  · obtain ⟨j, _, rfl⟩ := List.mem_map.1 hy
    exact Int.le_refl _

theorem allSpots_add (zs : List Int) (h n : Nat) : allSpots (zs ++ [(h : Int)]) n = allSpots zs n ++ spotsL h n := by
  unfold allSpots
  rw [List.flatMap_append]
  simp

theorem refHosts_len (zs : List Int) (h : Nat) : (refHosts zs h).length ≤ h := by
  unfold refHosts
  refine Nat.le_trans (List.length_filter_le _ _) ?_
  simp

theorem spotsL_len (h n : Nat) : (spotsL h n).length = n := by unfold spotsL; simp

/-- The hosts so far: those below h, and h, if it was met. -/
def metHosts (zs : List Int) (h j : Nat) : List Int := refHosts zs h ++ (if (h : Int) ∈ zs.take j then [(h : Int)] else [])

theorem met_zero (zs : List Int) (h : Nat) : metHosts zs h 0 = refHosts zs h := by unfold metHosts; simp
theorem met_all {zs : List Int} {h j : Nat} (hj : zs.length ≤ j) : metHosts zs h j = refHosts zs (h + 1) := by unfold metHosts; rw [List.take_of_length_le hj, refHosts_next]
theorem met_yes {zs : List Int} (hz : Right zs) {h j : Nat} (hj : j < zs.length) (e : zs[j] = (h : Int)) : metHosts zs h j = refHosts zs h ∧ metHosts zs h (j + 1) = refHosts zs h ++ [(h : Int)] := by
  have hn := (Right.of_take (hz.take (j + 1)) hj).2
  unfold metHosts
  rw [e] at hn
  rw [if_neg hn, List.append_nil, ← List.take_append_getElem hj, e, if_pos (List.mem_append.2 (.inr (List.mem_singleton.2 rfl)))]
  exact ⟨rfl, rfl⟩
theorem met_no {zs : List Int} {h j : Nat} (hj : j < zs.length) (e : zs[j] ≠ (h : Int)) : metHosts zs h (j + 1) = metHosts zs h j := by
  unfold metHosts
  rw [← List.take_append_getElem hj]
  congr 2
  rw [List.mem_append, List.mem_singleton]
  exact propext ⟨fun h => h.elim id (fun h => absurd h.symm e), .inl⟩

set_option maxRecDepth 100000 in
set_option maxHeartbeats 4000000 in
theorem refNew_any (w : World) (a : Option Addr) (m c : Nat) (zs : List Int) (B : IntsAt w a m c zs) (hm : m ≤ 1000) (p : Int) :
    Calls Tryd.prog 5 #[.slice a m c, .int .i64 p] w fun e w' => RNewPost w zs p e w' := by
  have WR := wrong_any w a m c zs B (by omega) p
  by_cases hok : Right zs ∧ 1 ≤ p ∧ p ≤ 64
  · rw [wrongB_no hok] at WR
    have HOK : Hid (Right zs ∧ 1 ≤ p ∧ p ≤ 64) := hok
    obtain ⟨n, rfl⟩ := Int.eq_ofNat_of_zero_le (show 0 ≤ p by omega)
    have hn64 : n ≤ 64 := by omega
    have HB : Hid (IntsAt w a m c zs) := B
    have HL : Hid (zs.length = m) := B.len
    obtain ⟨i0, hi, hz0, hz1, hz2⟩ := info_parts Tryd.info3
    clear hok B
    go_enter Tryd.func5, Tryd.ntmps5
    go_wp2_with (first
      | (go_at_call 21; refine WR.mono ?_; rintro e w1 ⟨rfl, K1⟩; clear WR)
      | fail)
    have HQ0 : Hid (QSt (w1.alloc (.cells #[.slice none 0 0, .slice none 0 0] 37)) w1.heap.size [] []) := QSt.new w1
    have K2 : Kept (fun _ => False) w (w1.alloc (.cells #[.slice none 0 0, .slice none 0 0] 37)) := K1.and (Kept.alloc _ _ _)
    have hrw : Hid (w.heap.size ≤ w1.heap.size) := K1.size
    generalize hV : w1.alloc (.cells #[.slice none 0 0, .slice none 0 0] 37) = V at *
    generalize w1.heap.size = rb at *
    clear hV K1
    go_loopw [7] (fun i wr => ∃ (h : Nat) (l : List Sp), h ≤ 16 ∧ i = .int .i64 h ∧ QSt wr rb l (refHosts zs h) ∧ l.Pairwise noLater ∧ l.Perm (allSpots (refHosts zs h) n) ∧ Kept (fun j => rb ≤ j) V wr) (fun i _ => 16 - (intOf i).toNat)
    case atStart => exact ⟨0, [], by decide, rfl, HQ0.out, List.Pairwise.nil, List.Perm.refl _, Kept.refl _ _⟩
    case round =>
      obtain ⟨h, l, h16, rfl, Q, hs, hp, K⟩ := hrel
      by_cases hlt : h < 16
      · have e0 : (h : Int) < 16 := by omega
        go_wp2
        go_loopw [8] (fun i wr => ∃ (j : Nat) (l : List Sp), j ≤ m ∧ i = .int .i64 j ∧ QSt wr rb l (metHosts zs h j) ∧ l.Pairwise noLater ∧ l.Perm (allSpots (metHosts zs h j) n) ∧ Kept (fun j => rb ≤ j) V wr) (fun i _ => m - (intOf i).toNat)
        case atStart => exact ⟨0, l, Nat.zero_le _, rfl, by rw [met_zero]; exact Q, hs, by rw [met_zero]; exact hp, K⟩
        case round =>
          clear Q hs hp K l
          obtain ⟨j, l, hj, rfl, Q, hs, hp, K⟩ := hrel
          have KF : Kept (fun _ => False) w wr := K2.trans K (fun i h => .inr (by have h' : rb ≤ i := h; have := hrw.out; omega))
          by_cases hjm : j < m
          · have hjl : j < zs.length := by rw [HL.out]; exact hjm
            have e1 : (j : Int) < (m : Int) := by omega
            obtain ⟨b, o, rfl, hc⟩ := (HB.out.kept KF (fun _ _ _ h => h)).at hjl
            have x1 := hc j hjl
            clear hc
            by_cases hz : zs[j] = (h : Int)
            · obtain ⟨m0, m1⟩ := met_yes HOK.out.1 hjl hz
              rw [hz] at x1
              rw [m0] at Q hp
              have HM1 : Hid (metHosts zs h (j + 1) = refHosts zs h ++ [(h : Int)]) := m1
              have hln : (refHosts zs h).length ≤ h := refHosts_len zs h
              obtain ⟨vL, vH, q1, q2, q3, q4⟩ := Q.ok
              obtain ⟨aH, cH, rfl⟩ := ownsRow_shape q3
              have hrl := (Array.getElem?_eq_some_iff.1 q1).1
              have y1 : (wr.alloc (.cells #[.int .i64 (h : Int)] 3)).cell? ⟨rb, 1, none⟩ = some (.slice aH (refHosts zs h).length cH) := cellKept (Kept.alloc _ _ _) (by unfold World.cell?; rw [q1]; rfl)
              have y0 : wr.cell? ⟨rb, 1, none⟩ = some (.slice aH (refHosts zs h).length cH) := by unfold World.cell?; rw [q1]; rfl
              have HQ1 : Hid (wr.heap[rb]? = some (.cells #[vL, .slice aH (refHosts zs h).length cH] 37 (0, 0))) := q1
              have HQ2 : Hid (wr.ownsRow (rb + 1) 49 3 vL l.length (sp3 l)) := q2
              have HQ3 : Hid (wr.ownsRow (rb + 1) 3 1 (.slice aH (refHosts zs h).length cH) (refHosts zs h).length ((refHosts zs h).map (Value.int .i64))) := q3
              have HQ4 : Hid (∀ g, vL.ownBlock = some g → (Value.slice aH (refHosts zs h).length cH).ownBlock ≠ some g) := q4
              have HS : Hid (l.Pairwise noLater) := hs
              have HP : Hid (l.Perm (allSpots (refHosts zs h) n)) := hp
              clear m0 m1 Q q1 q2 q3 q4 hz hs hp
              go_wp2_with (first
                | (at_builtin; refine wpList_append_src _ rfl _ _ 22 rfl (rb + 1) 3 i0 _ 1 8 Tryd.underlying22 hi hz0 hz1 hz2 rfl (by decide) (.slice aH (refHosts zs h).length cH) (refHosts zs h).length _ rfl (HQ3.out.alloc _) _ rfl 1 [.int .i64 (h : Int)] (.inl ⟨_, 1, rfl, rfl, World.news_of_block (heap_alloc_new _ _)⟩) (by simp [Value.oneCell']) (by unfold maxLen; omega) (by omega) (by simp; omega) ?_; intro a3 c3 w3 ho3 hg3 _ hl3; have h7 : w3.heap[rb]? = some (.cells #[vL, .slice aH (refHosts zs h).length cH] 37 (0, 0)) := ((Kept.grown (S := fun j => (Value.slice aH (refHosts zs h).length cH).ownBlock = some j) hg3 (fun j e => e)).block rb (by simp; omega) (fun e => by have h9 := (HQ3.out.lt rb e).1; omega)).trans (((Kept.alloc (fun _ => False) wr _).block rb hrl (fun h => h)).trans HQ1.out); have r7 : w3.cell? ⟨rb, 1, none⟩ = some (.slice aH (refHosts zs h).length cH) := (by unfold World.cell?; rw [h7]; rfl); have q7 : w3.frozen? ⟨rb, 1, none⟩ = false := (by unfold World.frozen?; rw [h7]; rfl); have HH := QSt.host (h := (h : Int)) HQ1.out HQ2.out HQ3.out HQ4.out (Kept.alloc _ _ _) hg3 rfl ho3 hl3; clear h7 ho3 hg3 hl3 y0 y1 x1)
                | fail)
              obtain ⟨QN, KN⟩ := HH
              have KV := K.and KN
              generalize w3.setCell ⟨rb, 1, none⟩ (.slice a3 ((refHosts zs h).length + 1) c3) = w4 at *
              clear r7 q7 KN K KF
              go_loopw [9] (fun i wr => ∃ (k : Nat) (l : List Sp), k ≤ n ∧ i = .int .i64 k ∧ QSt wr rb l (refHosts zs h ++ [(h : Int)]) ∧ l.Pairwise noLater ∧ l.Perm (allSpots (refHosts zs h) n ++ spotsL h k) ∧ Kept (fun j => rb ≤ j) V wr) (fun i _ => n - (intOf i).toNat)
              case atStart => exact ⟨0, l, Nat.zero_le _, rfl, QN, HS.out, by rw [show spotsL h 0 = [] from rfl, List.append_nil]; exact HP.out, KV⟩
              case round =>
                clear QN KV HS HP HQ1 HQ2 HQ3 HQ4
                obtain ⟨k, l', hk, rfl, Q, hs, hp, K⟩ := hrel
                by_cases hkn : k < n
                · have e2 : (k : Int) < (n : Int) := by omega
                  have hlen : l'.length ≤ 1048575 := by
                    rw [hp.length_eq, List.length_append, allSpots_len, spotsL_len]
                    have h5 : (refHosts zs h).length * n ≤ 16 * 64 := Nat.mul_le_mul (by omega) hn64
                    omega
                  have HW : Hid (∀ y ∈ allSpots (refHosts zs h) n ++ spotsL h k, y.2 ≤ (h : Int)) := spots_hosts
                  have HN : Hid (allSpots (refHosts zs h) n ++ spotsL h (k + 1) = allSpots (refHosts zs h) n ++ spotsL h k ++ [(hostPt h k, (h : Int))]) := by show _ = _; rw [spotsL_next, List.append_assoc]
                  have T1 := text_any wr h (by omega)
                  have T2 := fun W => text_any W k (by omega)
                  have l1 := dec_len h (by omega)
                  have l2 := dec_len k (by omega)
                  have c1 := fun W => run_cat W [104, 111, 115, 116, 47] (Lib.decDigits h) (by simp; omega)
                  have c2 := fun W => run_cat W ([104, 111, 115, 116, 47] ++ Lib.decDigits h) [47] (by simp; omega)
                  have c3 := fun W => run_cat W ([104, 111, 115, 116, 47] ++ Lib.decDigits h ++ [47]) (Lib.decDigits k) (by simp; omega)
                  have PT := fun W => refPoint_any W (bs (hostText h k)) (by rw [bs_size]; unfold hostText; simp; omega)
                  rw [bs_list] at PT
                  change ∀ W, (Op.stringOp .add ⟨#[104, 111, 115, 116, 47]⟩ (bs (Lib.decDigits h))).run Tryd.prog W = _ at c1
                  change ∀ W, (Op.stringOp .add (bs ([104, 111, 115, 116, 47] ++ Lib.decDigits h)) ⟨#[47]⟩).run Tryd.prog W = _ at c2
                  change ∀ W, (Op.stringOp .add (bs ([104, 111, 115, 116, 47] ++ Lib.decDigits h ++ [47])) (bs (Lib.decDigits k))).run Tryd.prog W = .ok (.string (bs (hostText h k))) W at c3
                  change ∀ W, Calls Tryd.prog 23 _ W (fun e w' => e = .returned (pv (hostPt h k)) ∧ Kept (fun _ => False) W w') at PT
                  have PA := fun V' (K' : Kept (fun _ => False) wr V') => put_any V' rb l' (refHosts zs h ++ [(h : Int)]) (hostPt h k, (h : Int)) (Q.kept K') hlen
                  have HPI : Hid (∀ j, PutAt l' (hostPt h k, (h : Int)) j → (l'.take j ++ [(hostPt h k, (h : Int))] ++ l'.drop j).Pairwise noLater ∧ (l'.take j ++ [(hostPt h k, (h : Int))] ++ l'.drop j).Perm (allSpots (refHosts zs h) n ++ spotsL h (k + 1))) := fun j hj => by rw [HN.out]; exact put_in hs hp HW.out hj
                  generalize bs (hostText h k) = s4 at *
                  generalize bs ([104, 111, 115, 116, 47] ++ Lib.decDigits h ++ [47]) = s3 at *
                  generalize bs ([104, 111, 115, 116, 47] ++ Lib.decDigits h) = s2 at *
                  generalize bs (Lib.decDigits h) = s1 at *
                  generalize bs (Lib.decDigits k) = s5 at *
                  unfold pv at PT
                  clear l1 l2 HN HW hs hp Q
                  generalize hostPt h k = pt at *
                  go_wp2_with (first
                    | (go_at_call 24; have _t := T1; refine T1.mono ?_; rintro e w5 ⟨rfl, K5⟩; clear T1 _t)
                    | (go_at_call 24; refine (T2 _).mono ?_; rintro e w6 ⟨rfl, K6⟩; clear T2)
                    | (go_at_call 23; refine (PT _).mono ?_; rintro e w7 ⟨rfl, K7⟩; clear PT)
                    | (go_at_call 22; refine (PA _ ((K5.and K6).and K7)).mono ?_; rintro e w8 ⟨rfl, ⟨j8, hj8, Q8⟩, K8⟩; clear PA)
                    | fail)
                  go_roundw
                  case rel => exact ⟨k + 1, _, by omega, by go_num, Q8, (HPI.out j8 hj8).1, (HPI.out j8 hj8).2, K.and ((((K5.and K6).and K7).mono (fun _ h => h.elim)).and (K8.mono (fun i e => by have e' : i = rb := e; omega)))⟩
                  case measure => simp [intOf]; omega
                · have e2 : ¬ (k : Int) < (n : Int) := by omega
                  obtain rfl : k = n := by omega
                  go_wp2
                  go_roundw
                  case rel => exact ⟨j + 1, l', by omega, by go_num, by rw [HM1.out]; exact Q, hs, by rw [HM1.out, allSpots_add]; exact hp, K⟩
                  case measure => simp [intOf]; omega
            · have HM1 : Hid (metHosts zs h (j + 1) = metHosts zs h j) := met_no hjl hz
              generalize zs[j] = y at *
              have g1 : (y == (h : Int)) = false := by simpa using hz
              clear hz
              go_wp2
              go_roundw
              case rel => exact ⟨j + 1, l, by omega, by go_num, by rw [HM1.out]; exact Q, hs, by rw [HM1.out]; exact hp, K⟩
              case measure => simp [intOf]; omega
          · have e1 : ¬ (j : Int) < (m : Int) := by omega
            have HM1 : Hid (metHosts zs h j = refHosts zs (h + 1)) := met_all (by rw [HL.out]; omega)
            go_wp2
            go_roundw
            case rel => exact ⟨h + 1, l, by omega, by go_num, by rw [← HM1.out]; exact Q, hs, by rw [← HM1.out]; exact hp, K⟩
            case measure => simp [intOf]; omega
      · have e0 : ¬ (h : Int) < 16 := by omega
        obtain rfl : h = 16 := by omega
        have HPP : Hid (l.Perm (allSpots zs n)) := hp.trans ((refHosts_perm HOK.out.1).flatMap_right _)
        clear hp
        go_wp2
        go_ret2
        exact ⟨K2.trans K (fun i h => .inr (by have h' : rb ≤ i := h; have := hrw.out; omega)), .inr ⟨HOK.out, rb, l, rfl, HPP.out, hs, Q⟩⟩
  · rw [wrongB_yes hok] at WR
    go_enter Tryd.func5, Tryd.ntmps5
    go_wp2_with (first
      | (go_at_call 21; refine WR.mono ?_; rintro e w1 ⟨rfl, K1⟩; clear WR)
      | fail)
    go_ret2
    exact ⟨K1, .inl ⟨hok, rfl⟩⟩

end Go.Proofs.YtjfgjmiedmpieaaDoor
