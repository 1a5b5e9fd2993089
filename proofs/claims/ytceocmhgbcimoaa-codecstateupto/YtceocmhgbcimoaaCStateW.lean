/-
  A state: its form; written by the codec.
-/
import Derived.Test.YtceocmhgbcimoaaCNode
import Derived.Test.YtceocmhgbcimoaaCSignal
namespace Go.Proofs.Ytceocmhgbcimoaa
open Go.RowKit

abbrev StateD := ByteArray × ByteArray × ByteArray × ByteArray × Int × ByteArray × (Int × List NodeD) × (Int × List SignalD) × Int

def wrState (s0 s1 s2 s3 : ByteArray) (s4 : Int) (s5 : ByteArray) (ns : Int × List NodeD) (gs : Int × List SignalD) (s8 : Int) : Option (List Int) :=
  put (put (put (put (put (put (put (put (wrText s0) (wrText s1)) (wrText s2)) (wrText s3)) (wrNum 0 4 s4)) (wrText s5)) (wrLst wrNode ns)) (wrLst wrSignal gs)) (wrNum 0 4503599627370496 s8)

def rdState : Rd StateD := rdBind rdText fun _ => rdBind rdText fun _ => rdBind rdText fun _ => rdBind rdText fun _ => rdBind (rdNum 0 4) fun _ => rdBind rdText fun _ => rdBind (rdLst rdNode) fun _ => rdBind (rdLst rdSignal) fun _ => rdNum 0 4503599627370496

def wrStateD (x : StateD) : Option (List Int) := wrState x.1 x.2.1 x.2.2.1 x.2.2.2.1 x.2.2.2.2.1 x.2.2.2.2.2.1 x.2.2.2.2.2.2.1 x.2.2.2.2.2.2.2.1 x.2.2.2.2.2.2.2.2

theorem stateForm : Form rdState wrStateD := by
  have h : wrStateD = wrBind wrText (fun _ => wrBind wrText (fun _ => wrBind wrText (fun _ => wrBind wrText (fun _ => wrBind (wrNum 0 4) (fun _ => wrBind wrText (fun _ => wrBind (wrLst wrNode) (fun _ => wrBind (wrLst wrSignal) (fun _ => wrNum 0 4503599627370496)))))))) := by
    funext x
    unfold wrStateD wrState
    simp only [put_assoc]
    rw [put_bind (wrLst wrSignal) (wrNum 0 4503599627370496) x.2.2.2.2.2.2.2, put_bind (wrLst wrNode) _ x.2.2.2.2.2.2, put_bind wrText _ x.2.2.2.2.2, put_bind (wrNum 0 4) _ x.2.2.2.2, put_bind wrText _ x.2.2.2, put_bind wrText _ x.2.2, put_bind wrText _ x.2]
    exact put_bind wrText _ x
  rw [h]
  exact textForm.bind (fun _ _ => textForm.bind (fun _ _ => textForm.bind (fun _ _ => textForm.bind (fun _ _ => (numForm (by decide) (by decide)).bind (fun _ _ => textForm.bind (fun _ _ => (lstForm nodeForm).bind (fun _ _ => (lstForm signalForm).bind (fun _ _ => numForm (by decide) (by decide)))))))))

theorem rowNode_lt {w : World} {a : Option Addr} {n c : Nat} {xs : List NodeD} (O : RowAt 3 nodeC w a n c xs) : 0 < n → ∀ ad, a = some ad → ad.block < w.heap.size := fun h ad e => O.lt (fun _ => ⟨_, rfl⟩) h ad e
theorem rowSignal_lt {w : World} {a : Option Addr} {n c : Nat} {xs : List SignalD} (O : RowAt 2 signalC w a n c xs) : 0 < n → ∀ ad, a = some ad → ad.block < w.heap.size := fun h ad e => O.lt (fun _ => ⟨_, rfl⟩) h ad e

set_option maxRecDepth 100000 in
set_option maxHeartbeats 1000000 in
theorem state_any (w : World) (s0 s1 s2 s3 : ByteArray) (s4 : Int) (s5 : ByteArray) (an : Option Addr) (nn cn : Nat) (ns : List NodeD) (ag : Option Addr) (ng cg : Nat) (gs : List SignalD) (s8 : Int) (ON : RowAt 3 nodeC w an nn cn ns) (OG : RowAt 2 signalC w ag ng cg gs) (h0 : s0.size ≤ 140737488355328) (h1 : s1.size ≤ 140737488355328) (h2 : s2.size ≤ 140737488355328) (h3 : s3.size ≤ 140737488355328) (h5 : s5.size ≤ 140737488355328) (hBN : bulkL nodeB ns ≤ 100000000) (hBG : bulkL signalB gs ≤ 100000000) :
    Calls Try.prog 40 #[.agg #[.string s0, .string s1, .string s2, .string s3, .int .i64 s4, .string s5, .slice an nn cn, .slice ag ng cg, .int .i64 s8]] w fun e w' => ∃ a l c er, e = .returned (.tuple #[.slice a l c, .int .i64 er]) ∧ Ans w' w.heap.size (wrState s0 s1 s2 s3 s4 s5 ((nn : Int), ns) ((ng : Int), gs) s8) a l c er ∧ Kept (fun _ => False) w w' := by
  have hC : ∀ w', Kept (fun k => w.heap.size + 1 ≤ k) (w.alloc (.cells #[.string s0, .string s1, .string s2, .string s3, .int .i64 s4, .string s5, .slice an nn cn, .slice ag ng cg, .int .i64 s8] 72)) w' → w'.cell? ⟨w.heap.size, 0, none⟩ = some (.string s0) ∧ w'.cell? ⟨w.heap.size, 1, none⟩ = some (.string s1) ∧ w'.cell? ⟨w.heap.size, 2, none⟩ = some (.string s2) ∧ w'.cell? ⟨w.heap.size, 3, none⟩ = some (.string s3) ∧ w'.cell? ⟨w.heap.size, 4, none⟩ = some (.int .i64 s4) ∧ w'.cell? ⟨w.heap.size, 5, none⟩ = some (.string s5) ∧ w'.cell? ⟨w.heap.size, 6, none⟩ = some (.slice an nn cn) ∧ w'.cell? ⟨w.heap.size, 7, none⟩ = some (.slice ag ng cg) ∧ w'.cell? ⟨w.heap.size, 8, none⟩ = some (.int .i64 s8) := fun w' K =>
    ⟨box_cells K (by omega) 0 _ rfl, box_cells K (by omega) 1 _ rfl, box_cells K (by omega) 2 _ rfl, box_cells K (by omega) 3 _ rfl, box_cells K (by omega) 4 _ rfl, box_cells K (by omega) 5 _ rfl, box_cells K (by omega) 6 _ rfl, box_cells K (by omega) 7 _ rfl, box_cells K (by omega) 8 _ rfl⟩
  have hW := WIn.new (w.alloc (.cells #[.string s0, .string s1, .string s2, .string s3, .int .i64 s4, .string s5, .slice an nn cn, .slice ag ng cg, .int .i64 s8] 72)) 117
  have hsz : (w.alloc (.cells #[.string s0, .string s1, .string s2, .string s3, .int .i64 s4, .string s5, .slice an nn cn, .slice ag ng cg, .int .i64 s8] 72)).heap.size = w.heap.size + 1 := by simp
  rw [hsz] at hW
  have K0 : Kept (fun k => w.heap.size + 1 ≤ k) (w.alloc (.cells #[.string s0, .string s1, .string s2, .string s3, .int .i64 s4, .string s5, .slice an nn cn, .slice ag ng cg, .int .i64 s8] 72)) ((w.alloc (.cells #[.string s0, .string s1, .string s2, .string s3, .int .i64 s4, .string s5, .slice an nn cn, .slice ag ng cg, .int .i64 s8] 72)).alloc (.cells #[.slice none 0 0, .bool false] 117)) := Kept.alloc _ _ _
  have ltN := rowNode_lt ON
  have ltG := rowSignal_lt OG
  have RN : Hid (∀ w', Kept (fun k => w.heap.size + 1 ≤ k) (w.alloc (.cells #[.string s0, .string s1, .string s2, .string s3, .int .i64 s4, .string s5, .slice an nn cn, .slice ag ng cg, .int .i64 s8] 72)) w' → RowAt 3 nodeC w' an nn cn ns) := fun w' K => (ON.kept (Kept.alloc (fun _ => False) w _) (fun _ _ _ h => h)).kept K (fun h ad e => by have := ltN h ad e; show ¬ w.heap.size + 1 ≤ ad.block; omega)
  have RG : Hid (∀ w', Kept (fun k => w.heap.size + 1 ≤ k) (w.alloc (.cells #[.string s0, .string s1, .string s2, .string s3, .int .i64 s4, .string s5, .slice an nn cn, .slice ag ng cg, .int .i64 s8] 72)) w' → RowAt 2 signalC w' ag ng cg gs) := fun w' K => (OG.kept (Kept.alloc (fun _ => False) w _) (fun _ _ _ h => h)).kept K (fun h ad e => by have := ltG h ad e; show ¬ w.heap.size + 1 ≤ ad.block; omega)
  have HL : Hid ((0 < nn → ∀ ad, an = some ad → ad.block < w.heap.size + 1) ∧ (0 < ng → ∀ ad, ag = some ad → ad.block < w.heap.size + 1)) := ⟨fun h ad e => by have := ltN h ad e; omega, fun h ad e => by have := ltG h ad e; omega⟩
  have HE : Hid (wrState s0 s1 s2 s3 s4 s5 ((nn : Int), ns) ((ng : Int), gs) s8 = put (put (put (put (put (put (put (put (put (some []) (wrText s0)) (wrText s1)) (wrText s2)) (wrText s3)) (wrNum 0 4 s4)) (wrText s5)) (wrLst wrNode ((nn : Int), ns))) (wrLst wrSignal ((ng : Int), gs))) (wrNum 0 4503599627370496 s8)) := by rw [some_put]; rfl
  clear ON OG ltN ltG
  have I0 := hW
  have KK0 := K0
  obtain ⟨c0_0, c0_1, c0_2, c0_3, c0_4, c0_5, c0_6, c0_7, c0_8⟩ := hC _ K0
  clear hW K0
  go_enter Try.func40, Try.ntmps40
  go_wp2_with (first
    | (go_at_call 80; have _t := I0; refine (wtext_any I0 s0 h0 (by omega)).mono ?_; rintro e w1 ⟨rfl, I1, K1⟩; have KK1 := KK0.and K1.k; obtain ⟨c1_0, c1_1, c1_2, c1_3, c1_4, c1_5, c1_6, c1_7, c1_8⟩ := hC _ KK1; clear I0 _t KK0 K1 c0_0 c0_1 c0_2 c0_3 c0_4 c0_5 c0_6 c0_7 c0_8)
    | (go_at_call 80; have _t := I1; refine (wtext_any I1 s1 h1 (by omega)).mono ?_; rintro e w2 ⟨rfl, I2, K2⟩; have KK2 := KK1.and K2.k; obtain ⟨c2_0, c2_1, c2_2, c2_3, c2_4, c2_5, c2_6, c2_7, c2_8⟩ := hC _ KK2; clear I1 _t KK1 K2 c1_0 c1_1 c1_2 c1_3 c1_4 c1_5 c1_6 c1_7 c1_8)
    | (go_at_call 80; have _t := I2; refine (wtext_any I2 s2 h2 (by omega)).mono ?_; rintro e w3 ⟨rfl, I3, K3⟩; have KK3 := KK2.and K3.k; obtain ⟨c3_0, c3_1, c3_2, c3_3, c3_4, c3_5, c3_6, c3_7, c3_8⟩ := hC _ KK3; clear I2 _t KK2 K3 c2_0 c2_1 c2_2 c2_3 c2_4 c2_5 c2_6 c2_7 c2_8)
    | (go_at_call 80; have _t := I3; refine (wtext_any I3 s3 h3 (by omega)).mono ?_; rintro e w4 ⟨rfl, I4, K4⟩; have KK4 := KK3.and K4.k; obtain ⟨c4_0, c4_1, c4_2, c4_3, c4_4, c4_5, c4_6, c4_7, c4_8⟩ := hC _ KK4; clear I3 _t KK3 K4 c3_0 c3_1 c3_2 c3_3 c3_4 c3_5 c3_6 c3_7 c3_8)
    | (go_at_call 81; have _t := I4; refine (wnum_any I4 s4 0 4 (by decide) (by decide) (by omega)).mono ?_; rintro e w5 ⟨rfl, I5, K5⟩; have KK5 := KK4.and K5.k; obtain ⟨c5_0, c5_1, c5_2, c5_3, c5_4, c5_5, c5_6, c5_7, c5_8⟩ := hC _ KK5; clear I4 _t KK4 K5 c4_0 c4_1 c4_2 c4_3 c4_4 c4_5 c4_6 c4_7 c4_8)
    | (go_at_call 80; have _t := I5; refine (wtext_any I5 s5 h5 (by omega)).mono ?_; rintro e w6 ⟨rfl, I6, K6⟩; have KK6 := KK5.and K6.k; obtain ⟨c6_0, c6_1, c6_2, c6_3, c6_4, c6_5, c6_6, c6_7, c6_8⟩ := hC _ KK6; clear I5 _t KK5 K6 c5_0 c5_1 c5_2 c5_3 c5_4 c5_5 c5_6 c5_7 c5_8)
    | (go_at_call 82; have _t := I6; refine (wnodes_any I6 (by omega) an nn cn ns (RN.out _ KK6) HL.out.1 hBN).mono ?_; rintro e w7 ⟨rfl, I7, K7⟩; have KK7 := KK6.and K7.k; obtain ⟨c7_0, c7_1, c7_2, c7_3, c7_4, c7_5, c7_6, c7_7, c7_8⟩ := hC _ KK7; clear I6 _t KK6 K7 c6_0 c6_1 c6_2 c6_3 c6_4 c6_5 c6_6 c6_7 c6_8)
    | (go_at_call 84; have _t := I7; refine (wsignals_any I7 (by omega) ag ng cg gs (RG.out _ KK7) HL.out.2 hBG).mono ?_; rintro e w8 ⟨rfl, I8, K8⟩; have KK8 := KK7.and K8.k; obtain ⟨c8_0, c8_1, c8_2, c8_3, c8_4, c8_5, c8_6, c8_7, c8_8⟩ := hC _ KK8; clear I7 _t KK7 K8 c7_0 c7_1 c7_2 c7_3 c7_4 c7_5 c7_6 c7_7 c7_8)
    | (go_at_call 81; have _t := I8; refine (wnum_any I8 s8 0 4503599627370496 (by decide) (by decide) (by omega)).mono ?_; rintro e w9 ⟨rfl, I9, K9⟩; have KK9 := KK8.and K9.k; clear I8 _t KK8 K9 c8_0 c8_1 c8_2 c8_3 c8_4 c8_5 c8_6 c8_7 c8_8)
    | (go_at_call 86; refine (wanswer_any I9).mono ?_; rintro e w10 ⟨a, l, c, er, rfl, hA, hw⟩; subst hw)
    | fail)
  go_ret2
  rw [HE.out]
  exact ⟨a, l, c, er, rfl, hA.mono (by omega), (Kept.alloc _ w _).trans KK9 (fun k h => .inr (by omega))⟩

end Go.Proofs.Ytceocmhgbcimoaa
