import Derived.Test.YtgigkiocdiffjaaGreatE48
set_option maxRecDepth 100000
set_option maxHeartbeats 16000000
namespace Go.Proofs.YtgigkiocdiffjaaGreat
open Go.RowKit Veil
theorem law_edits (co:Option Addr) (cn cc:Nat) (ao:Option Addr) (n cap:Nat) (ops:Nat→OpR) (cs:Nat→Cfg) (vs:Nat→CfgV) (w:World) (hops:OpsAt w ao n ops) (hn:n≤1759218604441)
  (hcs:CfgsAt w co cn cs vs) (hcn:cn<2 ^ 57) (ha:∀ i,i<n→OpBound (ops i)) :
  Calls Tryz.prog 6 #[.slice co cn cc,.slice ao n cap] w fun e w'=>e=.returned (.bool true)∧Below w.heap.size w w':=by
 have HO:=hide hops
 have HC:=hide hcs
 have HA:=hide ha
 have HN:=hide hcn
 clear hops
 clear hcs ha hcn
 go_enter Tryz.func6,Tryz.ntmps6
 go_wp2_with fail
 have hbel:∀ o:Obj,Below w.heap.size w (w.alloc o):=fun o=>(Below.refl _ _).alloc (Nat.le_refl _) _
 refine (plays_inv co cn cc ao n cap ops w.heap.size w.heap.size [6,7,8,12] [6,7,8,12] (w.alloc (.cells #[.int .i64 6,.int .i64 7,.int .i64 8,.int .i64 12] 3)) (fun g k F w'=>LawI (w.alloc (.cells #[.int .i64 6,.int .i64 7,.int .i64 8,.int .i64 12] 3)) (.slice co cn cc) g (min k n) F w') (OpsAt.below HO.out (hbel _)) (by omega) (Go.heap_alloc_new _ _) (Go.heap_alloc_new _ _) (by decide) (by decide) ?_ ?_).mono ?_
 ·exact all_inv (HC.out.below (hbel _)) HN.out hn (fun k hk=>by simp at hk;omega) HA.out (fun _ _ h5=>by simp at h5)
 ·exact law_start _ _ n
 ·rintro e w1 ⟨rfl,hb1⟩
  have HB:=hide ((hbel (.cells #[.int .i64 6,.int .i64 7,.int .i64 8,.int .i64 12] 3)).trans (hb1.mono (by simp)))
  clear hb1 hbel
  go_wp2
  go_ret
  exact⟨rfl,HB.out⟩
theorem law_views (co:Option Addr) (cn cc:Nat) (ao:Option Addr) (n cap:Nat) (ops:Nat→OpR) (cs:Nat→Cfg) (vs:Nat→CfgV) (w:World) (hops:OpsAt w ao n ops) (hn:n≤1759218604441)
  (hcs:CfgsAt w co cn cs vs) (hcn:cn<2 ^ 57) (ha:∀ i,i<n→OpBound (ops i)) :
  Calls Tryz.prog 7 #[.slice co cn cc,.slice ao n cap] w fun e w'=>e=.returned (.bool true)∧Below w.heap.size w w':=by
 have HO:=hide hops
 have HC:=hide hcs
 have HA:=hide ha
 have HN:=hide hcn
 clear hops
 clear hcs ha hcn
 go_enter Tryz.func7,Tryz.ntmps7
 go_wp2_with fail
 have hbel:∀ o o':Obj,Below w.heap.size w ((w.alloc o).alloc o'):=fun o o'=>((Below.refl _ _).alloc (Nat.le_refl _) _).alloc (by simp) _
 refine (plays_inv co cn cc ao n cap ops w.heap.size (w.heap.size+1) [6,7,8,9] [9] ((w.alloc (.cells #[.int .i64 6,.int .i64 7,.int .i64 8,.int .i64 9] 3)).alloc (.cells #[.int .i64 9] 3)) (fun g k F w'=>LawI ((w.alloc (.cells #[.int .i64 6,.int .i64 7,.int .i64 8,.int .i64 9] 3)).alloc (.cells #[.int .i64 9] 3)) (.slice co cn cc) g (min k n) F w') (OpsAt.below HO.out (hbel _ _)) (by omega) (heap_alloc2_old _ _ _) (heap_alloc2_new _ _ _) (by decide) (by decide) ?_ ?_).mono ?_
 ·exact all_inv (HC.out.below (hbel _ _)) HN.out hn (fun k hk=>by simp at hk;omega) HA.out (fun _ _ h5=>by simp at h5)
 ·exact law_start _ _ n
 ·rintro e w1 ⟨rfl,hb1⟩
  have HB:=hide ((hbel (.cells #[.int .i64 6,.int .i64 7,.int .i64 8,.int .i64 9] 3) (.cells #[.int .i64 9] 3)).trans (hb1.mono (by simp;omega)))
  clear hb1 hbel
  go_wp2
  go_ret
  exact⟨rfl,HB.out⟩
theorem law_pieces (co:Option Addr) (cn cc:Nat) (ao:Option Addr) (n cap:Nat) (ops:Nat→OpR) (cs:Nat→Cfg) (vs:Nat→CfgV) (w:World) (hops:OpsAt w ao n ops) (hn:n≤1759218604441)
  (hcs:CfgsAt w co cn cs vs) (hcn:cn<2 ^ 57) (ha:∀ i,i<n→OpBound (ops i)) :
  Calls Tryz.prog 8 #[.slice co cn cc,.slice ao n cap] w fun e w'=>e=.returned (.bool true)∧Below w.heap.size w w':=by
 have HO:=hide hops
 have HC:=hide hcs
 have HA:=hide ha
 have HN:=hide hcn
 clear hops
 clear hcs ha hcn
 go_enter Tryz.func8,Tryz.ntmps8
 go_wp2_with fail
 have hbel:∀ o o':Obj,Below w.heap.size w ((w.alloc o).alloc o'):=fun o o'=>((Below.refl _ _).alloc (Nat.le_refl _) _).alloc (by simp) _
 refine (plays_inv co cn cc ao n cap ops w.heap.size (w.heap.size+1) [6,7,8,10,11] [10,11] ((w.alloc (.cells #[.int .i64 6,.int .i64 7,.int .i64 8,.int .i64 10,.int .i64 11] 3)).alloc (.cells #[.int .i64 10,.int .i64 11] 3)) (fun g k F w'=>LawI ((w.alloc (.cells #[.int .i64 6,.int .i64 7,.int .i64 8,.int .i64 10,.int .i64 11] 3)).alloc (.cells #[.int .i64 10,.int .i64 11] 3)) (.slice co cn cc) g (min k n) F w') (OpsAt.below HO.out (hbel _ _)) (by omega) (heap_alloc2_old _ _ _) (heap_alloc2_new _ _ _) (by decide) (by decide) ?_ ?_).mono ?_
 ·exact all_inv (HC.out.below (hbel _ _)) HN.out hn (fun k hk=>by simp at hk;omega) HA.out (fun _ _ h5=>by simp at h5)
 ·exact law_start _ _ n
 ·rintro e w1 ⟨rfl,hb1⟩
  have HB:=hide ((hbel (.cells #[.int .i64 6,.int .i64 7,.int .i64 8,.int .i64 10,.int .i64 11] 3) (.cells #[.int .i64 10,.int .i64 11] 3)).trans (hb1.mono (by simp;omega)))
  clear hb1 hbel
  go_wp2
  go_ret
  exact⟨rfl,HB.out⟩
theorem law_veils (co:Option Addr) (cn cc:Nat) (ao:Option Addr) (n cap:Nat) (ops:Nat→OpR) (cs:Nat→Cfg) (vs:Nat→CfgV) (w:World) (hops:OpsAt w ao n ops) (hn:n≤1759218604441)
  (hcs:CfgsAt w co cn cs vs) (hcn:cn<2 ^ 57) (ha:∀ i,i<n→OpBound (ops i)) :
  Calls Tryz.prog 9 #[.slice co cn cc,.slice ao n cap] w fun e w'=>e=.returned (.bool true)∧Below w.heap.size w w':=by
 have HO:=hide hops
 have HC:=hide hcs
 have HA:=hide ha
 have HN:=hide hcn
 clear hops
 clear hcs ha hcn
 go_enter Tryz.func9,Tryz.ntmps9
 go_wp2_with fail
 have hbel:∀ o:Obj,Below w.heap.size w (w.alloc o):=fun o=>(Below.refl _ _).alloc (Nat.le_refl _) _
 refine (plays_inv co cn cc ao n cap ops w.heap.size w.heap.size [6,7,8,13,14,9] [6,7,8,13,14,9] (w.alloc (.cells #[.int .i64 6,.int .i64 7,.int .i64 8,.int .i64 13,.int .i64 14,.int .i64 9] 3)) (fun g k F w'=>LawI (w.alloc (.cells #[.int .i64 6,.int .i64 7,.int .i64 8,.int .i64 13,.int .i64 14,.int .i64 9] 3)) (.slice co cn cc) g (min k n) F w') (OpsAt.below HO.out (hbel _)) (by omega) (Go.heap_alloc_new _ _) (Go.heap_alloc_new _ _) (by decide) (by decide) ?_ ?_).mono ?_
 ·exact all_inv (HC.out.below (hbel _)) HN.out hn (fun k hk=>by simp at hk;omega) HA.out (fun _ _ h5=>by simp at h5)
 ·exact law_start _ _ n
 ·rintro e w1 ⟨rfl,hb1⟩
  have HB:=hide ((hbel (.cells #[.int .i64 6,.int .i64 7,.int .i64 8,.int .i64 13,.int .i64 14,.int .i64 9] 3)).trans (hb1.mono (by simp)))
  clear hb1 hbel
  go_wp2
  go_ret
  exact⟨rfl,HB.out⟩
theorem law_logs (co:Option Addr) (cn cc:Nat) (ao:Option Addr) (n cap:Nat) (ops:Nat→OpR) (cs:Nat→Cfg) (vs:Nat→CfgV) (w:World) (hops:OpsAt w ao n ops) (hn:n≤1759218604441)
  (hcs:CfgsAt w co cn cs vs) (hcn:cn<2 ^ 57) (ha:∀ i,i<n→OpBound (ops i)) :
  Calls Tryz.prog 10 #[.slice co cn cc,.slice ao n cap] w fun e w'=>e=.returned (.bool true)∧Below w.heap.size w w':=by
 have HO:=hide hops
 have HC:=hide hcs
 have HA:=hide ha
 have HN:=hide hcn
 clear hops
 clear hcs ha hcn
 go_enter Tryz.func10,Tryz.ntmps10
 go_wp2_with fail
 have hbel:∀ o o':Obj,Below w.heap.size w ((w.alloc o).alloc o'):=fun o o'=>((Below.refl _ _).alloc (Nat.le_refl _) _).alloc (by simp) _
 refine (plays_inv co cn cc ao n cap ops w.heap.size (w.heap.size+1) [6,7,8,13,14,15,16,17] [15,16,17] ((w.alloc (.cells #[.int .i64 6,.int .i64 7,.int .i64 8,.int .i64 13,.int .i64 14,.int .i64 15,.int .i64 16,.int .i64 17] 3)).alloc (.cells #[.int .i64 15,.int .i64 16,.int .i64 17] 3)) (fun g k F w'=>LawI ((w.alloc (.cells #[.int .i64 6,.int .i64 7,.int .i64 8,.int .i64 13,.int .i64 14,.int .i64 15,.int .i64 16,.int .i64 17] 3)).alloc (.cells #[.int .i64 15,.int .i64 16,.int .i64 17] 3)) (.slice co cn cc) g (min k n) F w') (OpsAt.below HO.out (hbel _ _)) (by omega) (heap_alloc2_old _ _ _) (heap_alloc2_new _ _ _) (by decide) (by decide) ?_ ?_).mono ?_
 ·exact all_inv (HC.out.below (hbel _ _)) HN.out hn (fun k hk=>by simp at hk;omega) HA.out (fun _ _ h5=>by simp at h5)
 ·exact law_start _ _ n
 ·rintro e w1 ⟨rfl,hb1⟩
  have HB:=hide ((hbel (.cells #[.int .i64 6,.int .i64 7,.int .i64 8,.int .i64 13,.int .i64 14,.int .i64 15,.int .i64 16,.int .i64 17] 3) (.cells #[.int .i64 15,.int .i64 16,.int .i64 17] 3)).trans (hb1.mono (by simp;omega)))
  clear hb1 hbel
  go_wp2
  go_ret
  exact⟨rfl,HB.out⟩
end Go.Proofs.YtgigkiocdiffjaaGreat
