/-
  Texts that stood by themselves, laid into one.
-/
import Derived.Test.YtfeodlbpnghakaaGreatDoorSPTextM
import Derived.Test.YtfeodlbpnghakaaGreatDoorIWire2M
import Derived.Test.YtfeodlbpnghakaaGreatDoorShapeM
import Derived.Test.YtfeodlbpnghakaaGreatDoorMcTM
import Derived.Test.YtfeodlbpnghakaaGreatDoorMach2M
import Derived.Test.YtfeodlbpnghakaaGreatDoorSR8M
/-
  The contract of (impl.reader).node: one node is read, or there is a mistake. Bounds of the form alone.
-/
set_option maxRecDepth 100000
set_option maxHeartbeats 6400000
namespace Go.Proofs.YtfeodlbpnghakaaGreatDoor
open Go.RowKit
theorem Zeb (w:World)(a b c d:Obj):Below w.heap.size w ((((w.alloc a).alloc b).alloc c).alloc d)/\((((w.alloc a).alloc b).alloc c).alloc d).heap[w.heap.size]? = some a/\((((w.alloc a).alloc b).alloc c).alloc d).heap[w.heap.size+1]? = some b /\
  ((((w.alloc a).alloc b).alloc c).alloc d).heap[w.heap.size+1+1]? = some c/\((((w.alloc a).alloc b).alloc c).alloc d).heap[w.heap.size+1+1+1]? = some d/\((((w.alloc a).alloc b).alloc c).alloc d).heap.size=w.heap.size+1+1+1+1:=by
 have g:(w.alloc a).heap.size=w.heap.size+1:=by simp
 have e:((w.alloc a).alloc b).heap.size=w.heap.size+1+1:=by simp
 have f:(((w.alloc a).alloc b).alloc c).heap.size=w.heap.size+1+1+1:=by simp
 refine ⟨((((Below.refl _ _).alloc (Nat.le_refl _) _).alloc (by omega) _).alloc (by omega) _).alloc (by omega) _,?_,?_,?_,?_,by simp⟩
 ·rw [heap_alloc_old _ _ (by omega),heap_alloc_old _ _ (by omega),heap_alloc_old _ _ (by omega)];exact heap_alloc_new _ _
 ·rw [heap_alloc_old _ _ (by omega),heap_alloc_old _ _ (by omega),<- g];exact heap_alloc_new _ _
 ·rw [heap_alloc_old _ _ (by omega),<- e];exact heap_alloc_new _ _
 ·rw [<- f];exact heap_alloc_new _ _
theorem Zmb (k:Int)(b:1 <= k)(c:k <= 9):∃ (n f:Nat),k=(n:Int)/\1 <= n/\n <= 9/\Zca[n * 2+1]? = some (.func (.func f) #[] #[])/\Gets f k/\∀ args w,Sem.run Tryz.prog (callFunc f args) w=.ok (.enter f args) w:=by
 have a:k=1 \/ k=2 \/ k=3 \/ k=4 \/ k=5 \/ k=6 \/ k=7 \/ k=8 \/ k=9:=by omega
 rcases a with rfl | rfl | rfl | rfl | rfl | rfl | rfl | rfl | rfl
 ·exact ⟨1,222,rfl,by omega,by omega,rfl,ZdZ,Za7 Tryz.func222 (by kernel_rfl) rfl⟩
 ·exact ⟨2,224,rfl,by omega,by omega,rfl,ZeE 2 (Or.inl rfl),Za7 Tryz.func224 (by kernel_rfl) rfl⟩
 ·exact ⟨3,226,rfl,by omega,by omega,rfl,Zhr,Za7 Tryz.func226 (by kernel_rfl) rfl⟩
 ·exact ⟨4,228,rfl,by omega,by omega,rfl,Zf3,Za7 Tryz.func228 (by kernel_rfl) rfl⟩
 ·exact ⟨5,230,rfl,by omega,by omega,rfl,ZfY,Za7 Tryz.func230 (by kernel_rfl) rfl⟩
 ·exact ⟨6,232,rfl,by omega,by omega,rfl,Zid,Za7 Tryz.func232 (by kernel_rfl) rfl⟩
 ·exact ⟨7,234,rfl,by omega,by omega,rfl,ZkD,Za7 Tryz.func234 (by kernel_rfl) rfl⟩
 ·exact ⟨8,224,rfl,by omega,by omega,rfl,ZeE 8 (Or.inr (Or.inl rfl)),Za7 Tryz.func224 (by kernel_rfl) rfl⟩
 ·exact ⟨9,224,rfl,by omega,by omega,rfl,ZeE 9 (Or.inr (Or.inr rfl)),Za7 Tryz.func224 (by kernel_rfl) rfl⟩
theorem Zi4 {zs:List Int}{k a:Int}(h:k < 1 \/ 9 < k):rdB zs k a=none:=by
 unfold rdB
 rw [if_neg (by omega),if_neg (by omega),if_neg (by omega),if_neg (by omega),if_neg (by omega),if_neg (by omega),if_neg (by omega)]
theorem Zb2 (x:Nd):(ndA x).all (·.oneCell')=true:=by simp [ndA,Value.oneCell']
def Zmv (zs:List Int)(a:Int)(P:Nat)(e:Ending)(w':World):Prop :=
 (∃ x b,rdNd zs a=some (x,b)/\e=.returned (.tuple #[.agg (ndA x),.nilIface])/\One w' P b) \/ (rdNd zs a=none/\(∃ x p,e=.returned (.tuple #[.agg (ndA x),badV p]))/\∃ q,One w' P q)
theorem Zi9 (v:Value)(zs:List Int)(H w:World)(P:Nat)(a:Int)(R:Row H v zs)(hb:Below H.heap.size H w)(hP:H.heap.size <= P)(h1:One w P a) :
  Calls Tryz.prog 213 #[.agg #[v,.pointer (some ⟨P,0,none⟩)],.agg Zca] w fun e s=>w.grownBy s (some P)/\Zmv zs a P e s:=by
 obtain ⟨I,j,rfl,_⟩:=id R
 have ah:=hb.size
 have ad:=h1.lt
 obtain ⟨u,E,J,A,x3,S⟩:=Zeb w (Obj.cells #[Value.slice I zs.length j,Value.pointer (some ⟨P,0,none⟩)] 235) (Obj.cells Zca 295) (Obj.cells #[.int .i64 0,.int .i64 0,.string ⟨#[]⟩,.int .i64 0,.int .i64 0] 194) (Obj.cells #[.int .i64 0,.int .i64 0,.string ⟨#[]⟩,.int .i64 0,.int .i64 0] 194)
 have hc:((((w.alloc (Obj.cells #[Value.slice I zs.length j,Value.pointer (some ⟨P,0,none⟩)] 235)).alloc (Obj.cells Zca 295)).alloc (Obj.cells #[.int .i64 0,.int .i64 0,.string ⟨#[]⟩,.int .i64 0,.int .i64 0] 194))).cell? ⟨P,0,none⟩=some (.int .i64 a):=by
  rw [World.cell?_alloc_lt _ _ ⟨P,0,none⟩ (by simp;omega),World.cell?_alloc_lt _ _ ⟨P,0,none⟩ (by simp;omega),World.cell?_alloc_lt _ _ ⟨P,0,none⟩ ad]
  exact h1.cell
 go_enter Tryz.func213,Tryz.ntmps213
 go_wp2_with fail
 obtain ⟨B,ae⟩:∃ B,(((w.alloc (Obj.cells #[Value.slice I zs.length j,Value.pointer (some ⟨P,0,none⟩)] 235)).alloc (Obj.cells Zca 295)).alloc (Obj.cells #[.int .i64 0,.int .i64 0,.string ⟨#[]⟩,.int .i64 0,.int .i64 0] 194)).alloc (Obj.cells #[.int .i64 0,.int .i64 0,.string ⟨#[]⟩,.int .i64 0,.int .i64 0] 194)=B:=⟨_,rfl⟩
 rw [ae] at u E J A x3 S ⊢
 have d:Below B.heap.size B (B.alloc (Obj.cells (tgt (w.heap.size+1+1+1) [0]) 233)):=(Below.refl _ _).alloc (Nat.le_refl _) _
 have L:=hb.trans (u.mono ah)
 have af:B.heap[w.heap.size+1+1+1]? = some (.cells (ndA (nd0 0)) 194 (0,0)):=x3
 have HC:=ZcV _ zs H (B.alloc (Obj.cells (tgt (w.heap.size+1+1+1) [0]) 233)) P (w.heap.size+1+1+1) B.heap.size a (ndA (nd0 0)) 194 [0] R (L.trans (d.mono L.size)) hP (by omega) ((h1.below u ad).below d (by omega)) ((d.block _ (by omega)).trans af) (by intro o ho;simp at ho;simp [ndA];omega) (heap_alloc_new _ _) (by omega) (by omega) (by omega) (by simp)
 rw [S] at HC
 have aj:w.heap.size+1+1+1+1 <= (B.alloc (Obj.cells (tgt (w.heap.size+1+1+1) [0]) 233)).heap.size:=by have:=d.size;omega
 have hG:K2 P (w.heap.size+1+1+1) w (B.alloc (Obj.cells (tgt (w.heap.size+1+1+1) [0]) 233)):=(K2.ofB u).trans (K2.ofB d)
 have E:=(d.block _ (by omega)).trans E
 have J:=(d.block _ (by omega)).trans J
 have A:=(d.block _ (by omega)).trans A
 clear S hc x3 af d
 refine HC.mono ?_
 rintro e i ⟨U,h⟩
 have E:=(U.block _ (by omega) (by omega) (by omega)).trans E
 have J:=(U.block _ (by omega) (by omega) (by omega)).trans J
 have A:=(U.block _ (by omega) (by omega) (by omega)).trans A
 have U:=hG.trans U
 have G:w.grownBy i (some P):=U.grown (by omega)
 clear hG aj HC u L ae
 rcases h with ⟨q,D,rfl,Q,e4⟩ | ⟨D,⟨p,rfl⟩,⟨q,Q⟩,-⟩
 ·rw [show [0].length=1 from rfl,Zcj,Option.map_eq_some_iff] at D
  obtain ⟨⟨k,b⟩,D,rfl⟩:=D
  have Z:Hid (rdNd zs a=rdB zs k b):=by unfold Hid rdNd;rw [D];rfl
  obtain ⟨k0,k1,_,_⟩:=Za9 D
  have Q:One i P b:=Q
  have e4:i.heap[w.heap.size+1+1+1]? = some (.cells (ndA (nd0 k)) 194 (0,0)):=e4
  have c0:i.cell? ⟨w.heap.size+1+1+1,0,none⟩=some (.int .i64 k):=cell_of_row i _ 0 _ _ _ e4
  have k0:0 <= k:=k0
  have k1:k <= 9223372036854775807:=k1
  clear D
  by_cases ai:k < 1
  ·go_wp2_with (refine Zai rfl 194 _ _ rfl (w.heap.size+1+1) (ndA (nd0 0)) rfl rfl 194 _ A Znj rfl (Zb2 _) ?_)
   intro c t l _
   go_wp2
   exact bodyPost_ret (Zab rfl _ _ (w.heap.size+1+1) 194 _ (0,0) _ rfl t Tryz.underlying194 rfl Znj) rfl ⟨Zal G l (by omega),Or.inr ⟨by rw [Z.out];exact Zi4 (Or.inl ai),⟨_,_,rfl⟩,b,Q.below l (by omega)⟩⟩
  by_cases ak:9 < k
  ·go_wp2_with (refine Zai rfl 194 _ _ rfl (w.heap.size+1+1) (ndA (nd0 0)) rfl rfl 194 _ A Znj rfl (Zb2 _) ?_)
   intro c t l _
   go_wp2
   exact bodyPost_ret (Zab rfl _ _ (w.heap.size+1+1) 194 _ (0,0) _ rfl t Tryz.underlying194 rfl Znj) rfl ⟨Zal G l (by omega),Or.inr ⟨by rw [Z.out];exact Zi4 (Or.inr ak),⟨_,_,rfl⟩,b,Q.below l (by omega)⟩⟩
  obtain ⟨n,f,rfl,an,am,hw,K,ac⟩:=Zmb k (by omega) (by omega)
  have Y:=K (.slice I zs.length j) zs H i.drew P (w.heap.size+1+1+1) b R
  have ag:Below H.heap.size H i.drew:=(hb.grown G ah (fun k hk=>by simp at hk;omega)).drew
  have Y:=Y ag hP (by omega) (by omega) Q e4
  have b0:i.cell? ⟨w.heap.size,0,none⟩=some (.slice I zs.length j):=cell_of_row i _ 0 _ _ _ E
  have b1:i.cell? ⟨w.heap.size,1,none⟩=some (.pointer (some ⟨P,0,none⟩)):=cell_of_row i _ 1 _ _ _ E
  have c5:i.cell? ⟨w.heap.size+1,n * 2+1,none⟩=some (.func (.func f) #[] #[]):=(cell_of_row i _ (n * 2+1) _ _ _ J).trans hw
  have Y:Calls Tryz.prog f #[.agg #[.slice I zs.length j,.pointer (some ⟨P,0,none⟩)],.pointer (some ⟨w.heap.size+1+1+1,0,none⟩)] i.drew fun e s=>∃ r,e=.returned r/\K2 P (w.heap.size+1+1+1) i.drew s/\Hid (((∃ x F,rdB zs n b=some (x,F)/\r=.nilIface/\One s P F/\s.heap[w.heap.size+1+1+1]? = some (.cells (ndA x) 194 (0,0)))
   \/ (rdB zs n b=none/\(∃ p,r=badV p)/\(∃ q,One s P q)/\∃ x:Nd,x.k=(n:Int)/\s.heap[w.heap.size+1+1+1]? = some (.cells (ndA x) 194 (0,0))))):=Y.mono (by
    rintro e s ⟨aa,h'⟩
    rcases h' with ⟨x,F,C,rfl,N,g⟩ | ⟨C,⟨p,rfl⟩,N,g⟩
    ·exact ⟨_,rfl,aa,Or.inl ⟨x,F,C,rfl,N,g⟩⟩
    ·exact ⟨_,rfl,aa,Or.inr ⟨C,⟨p,rfl⟩,N,g⟩⟩)
  clear K e4
  have SS:∀ (c:World) (r:Value),K2 P (w.heap.size+1+1+1) i.drew c -> Hid (((∃ x F,rdB zs n b=some (x,F)/\r=.nilIface/\One c P F/\c.heap[w.heap.size+1+1+1]? = some (.cells (ndA x) 194 (0,0)))
   \/ (rdB zs n b=none/\(∃ p,r=badV p)/\(∃ q,One c P q)/\∃ x:Nd,x.k=(n:Int)/\c.heap[w.heap.size+1+1+1]? = some (.cells (ndA x) 194 (0,0))))) ->
    c.cell? ⟨w.heap.size+1+1+1,0,none⟩=some (.int .i64 n)/\c.cell? ⟨w.heap.size+1,n * 2+1,none⟩=some (.func (.func f) #[] #[])/\c.cell? ⟨w.heap.size,0,none⟩=some (.slice I zs.length j)/\c.cell? ⟨w.heap.size,1,none⟩=some (.pointer (some ⟨P,0,none⟩)):=by
   intro c r k2 X
   have l0:=(bl E)
   have l1:=(bl J)
   have y0:=(k2.block _ l0 (by omega) (by omega)).trans E
   have y1:=(k2.block _ l1 (by omega) (by omega)).trans J
   have W:∃ x:Nd,x.k=(n:Int)/\c.heap[w.heap.size+1+1+1]? = some (.cells (ndA x) 194 (0,0)):=by
    rcases X.out with ⟨x,_,C,_,_,g⟩ | ⟨_,_,_,g⟩
    ·exact ⟨x,Zl3 C,g⟩
    ·exact g
   obtain ⟨x,hx,W⟩:=W
   refine ⟨?_,(cell_of_row c _ (n * 2+1) _ _ _ y1).trans hw,cell_of_row c _ 0 _ _ _ y0,cell_of_row c _ 1 _ _ _ y0⟩
   rw [cell_of_row c _ 0 _ _ _ W,<- hx]
   rfl
  have al:(n:Int) <= 9:=by omega
  go_wp2_with fail
  go_region_held (fun s=>s.cell? ⟨w.heap.size+1+1+1,0,none⟩=some (.int .i64 n)/\s.cell? ⟨w.heap.size+1,n * 2+1,none⟩=some (.func (.func f) #[] #[])/\s.cell? ⟨w.heap.size,0,none⟩=some (.slice I zs.length j)/\s.cell? ⟨w.heap.size,1,none⟩=some (.pointer (some ⟨P,0,none⟩))) (first | exact s2 | go_keep) (first
   | (refine Y.mono ?_;rintro e c ⟨r,rfl,k2,X⟩;have s2:=SS c r k2 X))
  all_goals
   have l2:=(bl A)
   have W:=(k2.block _ l2 (by omega) (by omega)).trans A
   have ab:w.grownBy c (some P):=((U.trans (K2.ofB (Below.refl _ i).drew)).trans k2).grown (by omega)
   clear Y SS s2 b0 b1 c5 c0 ac
   rcases X.out with ⟨x,F,C,rfl,N,g⟩ | ⟨C,⟨p,rfl⟩,⟨q,N⟩,x,z,g⟩
   ·have z:=Zl3 C
    obtain ⟨xk,V,m,T,M⟩:=x
    dsimp only at z
    subst z
    have c0:c.cell? ⟨w.heap.size+1+1+1,0,none⟩=some (.int .i64 n):=cell_of_row c _ 0 _ _ _ g
    have c1:c.cell? ⟨w.heap.size+1+1+1,1,none⟩=some (.int .i64 V):=cell_of_row c _ 1 _ _ _ g
    have c2:c.cell? ⟨w.heap.size+1+1+1,2,none⟩=some (.string m):=cell_of_row c _ 2 _ _ _ g
    have c3:c.cell? ⟨w.heap.size+1+1+1,3,none⟩=some (.int .i64 T):=cell_of_row c _ 3 _ _ _ g
    have c4:c.cell? ⟨w.heap.size+1+1+1,4,none⟩=some (.int .i64 M):=cell_of_row c _ 4 _ _ _ g
    clear X
    go_wp2_with (refine Zai rfl 194 _ _ rfl (w.heap.size+1+1) (ndA ⟨n,V,m,T,M⟩) rfl rfl 194 _ W Znj rfl (Zb2 _) ?_)
    intro w3 O y _
    go_wp2
    exact bodyPost_ret (Zab rfl _ _ (w.heap.size+1+1) 194 _ (0,0) _ rfl O Tryz.underlying194 rfl Znj) rfl ⟨Zal ab y (by omega),Or.inl ⟨⟨n,V,m,T,M⟩,F,by rw [Z.out];exact C,rfl,N.below y (by omega)⟩⟩
   ·obtain ⟨xk,V,m,T,M⟩:=x
    dsimp only at z
    subst z
    have c0:c.cell? ⟨w.heap.size+1+1+1,0,none⟩=some (.int .i64 n):=cell_of_row c _ 0 _ _ _ g
    have c1:c.cell? ⟨w.heap.size+1+1+1,1,none⟩=some (.int .i64 V):=cell_of_row c _ 1 _ _ _ g
    have c2:c.cell? ⟨w.heap.size+1+1+1,2,none⟩=some (.string m):=cell_of_row c _ 2 _ _ _ g
    have c3:c.cell? ⟨w.heap.size+1+1+1,3,none⟩=some (.int .i64 T):=cell_of_row c _ 3 _ _ _ g
    have c4:c.cell? ⟨w.heap.size+1+1+1,4,none⟩=some (.int .i64 M):=cell_of_row c _ 4 _ _ _ g
    clear X
    go_wp2_with (refine Zai rfl 194 _ _ rfl (w.heap.size+1+1) (ndA ⟨n,V,m,T,M⟩) rfl rfl 194 _ W Znj rfl (Zb2 _) ?_)
    intro w3 O y _
    go_wp2
    exact bodyPost_ret (Zab rfl _ _ (w.heap.size+1+1) 194 _ (0,0) _ rfl O Tryz.underlying194 rfl Znj) rfl ⟨Zal ab y (by omega),Or.inr ⟨by rw [Z.out];exact C,⟨⟨n,V,m,T,M⟩,p,rfl⟩,q,N.below y (by omega)⟩⟩
 ·rw [show [0].length=1 from rfl,Zcj,Option.map_eq_none_iff] at D
  have Z:Hid (rdNd zs a=none):=by unfold Hid rdNd;rw [D];rfl
  unfold badV
  go_wp2_with (refine Zai rfl 194 _ _ rfl (w.heap.size+1+1) (ndA (nd0 0)) rfl rfl 194 _ A Znj rfl (Zb2 _) ?_)
  intro c t l _
  go_wp2
  exact bodyPost_ret (Zab rfl _ _ (w.heap.size+1+1) 194 _ (0,0) _ rfl t Tryz.underlying194 rfl Znj) rfl ⟨Zal G l (by omega),Or.inr ⟨Z.out,⟨_,p,rfl⟩,q,Q.below l (by omega)⟩⟩
theorem ZcD (zs:List Int)(a:Int):(gT zs a).1.size <= zs.length:=by
 unfold gT
 split
 ·show (strOfNums _).size <= _
  rw [ZiU,List.length_take,List.length_drop]
  omega
 ·show (0:Nat) <= _
  omega
theorem ZkV {zs:List Int}{k a b:Int}{x:Nd}(h:rdB zs k a=some (x,b)):x.s.size <= zs.length:=by
 unfold rdB at h
 repeat' split at h
 all_goals first
  | (cases h;done)
  | (cases h;first | exact ZcD zs a | exact Nat.zero_le _)
  | (rw [Option.map_eq_some_iff] at h;obtain ⟨_,_,h⟩:=h;cases h;exact Nat.zero_le _)
  | (rw [Option.bind_eq_some_iff] at h;obtain ⟨_,_,h⟩:=h;rw [Option.map_eq_some_iff] at h;obtain ⟨_,_,h⟩:=h;cases h;exact Nat.zero_le _)
theorem ZiQ {zs:List Int}{a b:Int}{x:Nd}(h:rdNd zs a=some (x,b)):x.s.size <= zs.length:=by
 unfold rdNd at h
 rw [Option.bind_eq_some_iff] at h
 obtain ⟨_,_,h⟩:=h
 exact ZkV h
theorem ZbL (zs:List Int):∀ (n:Nat) (a:Int),Zbn zs (n+1) a=(Zbn zs n a).bind fun q=>(rdNd zs q.2).map fun p=>(q.1 ++ [p.1],p.2)
 | 0,a=>by
  simp only [Zbn,Option.bind_some]
  cases rdNd zs a <;> rfl
 | n+1,a=>by
  rw [Zbn]
  cases h:rdNd zs a with
  | none=>simp [Zbn,h]
  | some p =>
   simp only [Option.bind_some]
   rw [ZbL zs n p.2,Zbn,h]
   simp only [Option.bind_some]
   cases Zbn zs n p.2 with
   | none=>rfl
   | some q=>simp only [Option.bind_some,Option.map_some];cases rdNd zs q.2 <;> rfl
theorem Zex {zs:List Int}{a:Int}:∀ {n m:Nat},n <= m -> Zbn zs n a=none -> Zbn zs m a=none
 | n,0,h,e=>by
  obtain rfl:n=0:=by omega
  exact e
 | n,m+1,h,e=>by
  rcases Nat.lt_or_ge n (m+1) with b | b
  ·rw [ZbL,Zex (by omega) e];rfl
  ·obtain rfl:n=m+1:=by omega
   exact e
theorem Zfc {zs:List Int}{a:Int}{n:Nat}{q:List Nd × Int}(h:Zbn zs n a=some q):∀ {m:Nat} {t:List Nd × Int},n <= m -> Zbn zs m a=some t -> ∃ ys,t.1=q.1 ++ ys
 | 0,t,hm,e=>by
  obtain rfl:n=0:=by omega
  rw [h] at e
  cases e
  exact ⟨[],by simp⟩
 | m+1,t,hm,e=>by
  rcases Nat.lt_or_ge n (m+1) with c | c
  ·rw [ZbL,Option.bind_eq_some_iff] at e
   obtain ⟨u,d,b⟩:=e
   rw [Option.map_eq_some_iff] at b
   obtain ⟨p,_,rfl⟩:=b
   obtain ⟨ys,f⟩:=Zfc h (by omega) d
   exact ⟨ys ++ [p.1],by show u.1 ++ [p.1]=_;rw [f,List.append_assoc]⟩
  ·obtain rfl:n=m+1:=by omega
   rw [h] at e
   cases e
   exact ⟨[],by simp⟩
theorem ZlO {zs:List Int}{a c b:Int}{k:Nat}{q:List Nd × Int}(d:rd1 zs a=some (c,b))(i:k <= c.toNat)(e:Zbn zs k b=some q)(f:ZaD q.1 0=false):rdP zs a=none:=by
 unfold rdP
 rw [d]
 simp only [Option.bind_some]
 split
 ·rfl
 ·cases h:Zbn zs c.toNat b with
  | none=>rfl
  | some t =>
   obtain ⟨ys,g⟩:=Zfc e i h
   simp only [Option.bind_some]
   rw [if_neg]
   unfold Zas
   rw [g,ZbY,f,Bool.false_and,Bool.and_false]
   simp
theorem ZkB {zs:List Int}{a c b:Int}{k:Nat}(d:rd1 zs a=some (c,b))(f:k <= c.toNat)(e:Zbn zs k b=none):rdP zs a=none:=by
 unfold rdP
 rw [d]
 simp only [Option.bind_some]
 rw [Zex f e]
 split <;> rfl
theorem Zk2 {zs:List Int}{a c b:Int}{q:List Nd × Int}(d:rd1 zs a=some (c,b))(h:c <= 3000)(e:Zbn zs c.toNat b=some q)(f:ZaD q.1 0=true)(g:q.1.length <= 3000):rdP zs a=some q:=by
 unfold rdP
 rw [d]
 simp only [Option.bind_some]
 rw [if_neg (by omega),e]
 simp only [Option.bind_some]
 rw [if_pos]
 unfold Zas
 rw [f,decide_eq_true g]
 rfl
theorem Zci {w:World}{base k:Nat}{e:TypeId}{v:Value}{n:Nat}{a:List Value}(h:w.ownsRow base e k v n a){P:Nat}(b:P < base):v.ownBlock=none \/ v.ownBlock ≠ some P:=by
 right
 intro e
 have:=(h.lt P e).1
 omega
theorem K2.row {P M:Nat}{W w b:World}{row:Option Nat}(h:K2 P M W w)(a:w.grownBy b row)(f:∀ j,row=some j -> W.heap.size <= j):K2 P M W b :=
 ⟨a.os.trans h.os,a.tape.trans h.tape,a.output.trans h.output,Nat.le_trans h.size a.size,fun i hi c d=>(a.block i (Nat.lt_of_lt_of_le hi h.size) (fun e=>by have:=f i e.symm;omega)).trans (h.block i hi c d)⟩
def Zl0 (B:Nat)(zs:List Int)(a:Int)(P:Nat)(e:Ending)(w':World):Prop :=
 (∃ xs b vs,rdP zs a=some (xs,b)/\e=.returned (.tuple #[.agg #[vs],.nilIface])/\w'.ownsRow B 194 5 vs xs.length (ncs xs)/\One w' P b) \/ (rdP zs a=none/\(∃ p,e=.returned (.tuple #[.agg #[.slice none 0 0],badV p]))/\∃ q,One w' P q)
theorem Zgz (w:World)(a b c:Obj):Below w.heap.size w (((w.alloc a).alloc b).alloc c)/\(((w.alloc a).alloc b).alloc c).heap[w.heap.size]? = some a/\(((w.alloc a).alloc b).alloc c).heap[w.heap.size+1]? = some b /\
  (((w.alloc a).alloc b).alloc c).heap[w.heap.size+1+1]? = some c/\(((w.alloc a).alloc b).alloc c).heap.size=w.heap.size+1+1+1:=by
 have e:(w.alloc a).heap.size=w.heap.size+1:=by simp
 have d:((w.alloc a).alloc b).heap.size=w.heap.size+1+1:=by simp
 refine ⟨(((Below.refl _ _).alloc (Nat.le_refl _) _).alloc (by omega) _).alloc (by omega) _,?_,?_,?_,by simp⟩
 ·rw [heap_alloc_old _ _ (by omega),heap_alloc_old _ _ (by omega)];exact heap_alloc_new _ _
 ·rw [heap_alloc_old _ _ (by omega),<- e];exact heap_alloc_new _ _
 ·rw [<- d];exact heap_alloc_new _ _
theorem Zew (v:Value)(zs:List Int)(W0 w:World)(P:Nat)(a:Int)(R:Row W0 v zs)(hb:Below W0.heap.size W0 w)(hP:W0.heap.size <= P)(h1:One w P a) :
  Calls Tryz.prog 207 #[.agg #[v,.pointer (some ⟨P,0,none⟩)]] w fun e w'=>w.grownBy w' (some P)/\Zl0 w.heap.size zs a P e w':=by
 obtain ⟨i0,hi,aY,a7,a4⟩:=info_parts Zno
 obtain ⟨ao,ai,rfl,_,bg,_⟩:=id R
 have aO:=hb.size
 have aC:=h1.lt
 obtain ⟨X,x0,N,x2,T⟩:=Zgz w (Obj.cells #[Value.slice ao zs.length ai,Value.pointer (some ⟨P,0,none⟩)] 235) (Obj.cells #[.slice none 0 0] 40) (Obj.cells #[.int .i64 0] 3)
 have hc:((w.alloc (Obj.cells #[Value.slice ao zs.length ai,Value.pointer (some ⟨P,0,none⟩)] 235)).alloc (Obj.cells #[.slice none 0 0] 40)).cell? ⟨P,0,none⟩=some (.int .i64 a):=by
  rw [World.cell?_alloc_lt _ _ ⟨P,0,none⟩ (by simp;omega),World.cell?_alloc_lt _ _ ⟨P,0,none⟩ aC]
  exact h1.cell
 go_enter Tryz.func207,Tryz.ntmps207
 go_wp2_with fail
 obtain ⟨W3,aN⟩:∃ W3,((w.alloc (Obj.cells #[Value.slice ao zs.length ai,Value.pointer (some ⟨P,0,none⟩)] 235)).alloc (Obj.cells #[.slice none 0 0] 40)).alloc (Obj.cells #[.int .i64 0] 3)=W3:=⟨_,rfl⟩
 rw [aN] at X x0 N x2 T ⊢
 have D:Below W3.heap.size W3 (W3.alloc (Obj.cells (tgt (w.heap.size+1+1) [0]) 233)):=(Below.refl _ _).alloc (Nat.le_refl _) _
 have aq:=hb.trans (X.mono aO)
 have HC:=ZcV _ zs W0 (W3.alloc (Obj.cells (tgt (w.heap.size+1+1) [0]) 233)) P (w.heap.size+1+1) W3.heap.size a #[.int .i64 0] 3 [0] R (aq.trans (D.mono aq.size)) hP (by omega) ((h1.below X aC).below D (by omega)) ((D.block _ (by omega)).trans x2) (by intro o ho;simp at ho;simp;omega) (heap_alloc_new _ _) (by omega) (by omega) (by omega) (by simp)
 rw [T] at HC
 have a8:w.heap.size+1+1+1 <= (W3.alloc (Obj.cells (tgt (w.heap.size+1+1) [0]) 233)).heap.size:=by have:=D.size;omega
 have hG:K2 P (w.heap.size+1+1) w (W3.alloc (Obj.cells (tgt (w.heap.size+1+1) [0]) 233)):=(K2.ofB X).trans (K2.ofB D)
 have x0:=(D.block _ (by omega)).trans x0
 have N:=(D.block _ (by omega)).trans N
 clear T hc x2 D
 refine HC.mono ?_
 rintro e G ⟨O,h⟩
 have x0:=(O.block _ (by omega) (by omega) (by omega)).trans x0
 have N:=(O.block _ (by omega) (by omega) (by omega)).trans N
 have O:=hG.trans O
 have ac:w.grownBy G (some P):=O.grown (by omega)
 clear hG a8 HC X aq aN
 have r0:G.cell? ⟨w.heap.size+1,0,none⟩=some (.slice none 0 0):=cell_of_row G _ 0 _ _ _ N
 have rf:G.frozen? ⟨w.heap.size+1,0,none⟩=false:=frozen_of_row G _ 0 _ _ N
 have f:(G.setCell ⟨w.heap.size+1,0,none⟩ (.slice none 0 0)).heap[w.heap.size+1]? = some (.cells #[.slice none 0 0] 40 (0,0)):=heap_setCell_same G (w.heap.size+1) 0 _ _ (.slice none 0 0) N
 have d:Below (w.heap.size+1) G (G.setCell ⟨w.heap.size+1,0,none⟩ (.slice none 0 0)):=(Below.refl _ _).setCell (p:=⟨w.heap.size+1,0,none⟩) (Nat.le_refl _) _
 rcases h with ⟨q,e1,rfl,Z,e4⟩ | ⟨e1,⟨p,rfl⟩,⟨q,Z⟩,-⟩
 ·rw [show [0].length=1 from rfl,Zcj,Option.map_eq_some_iff] at e1
  obtain ⟨⟨c,a1⟩,e1,rfl⟩:=e1
  obtain ⟨c0,c1,a6,aU⟩:=Za9 e1
  have Z:One G P a1:=Z
  have e4:G.heap[w.heap.size+1+1]? = some (.cells #[.int .i64 c] 3 (0,0)):=e4
  have cc:G.cell? ⟨w.heap.size+1+1,0,none⟩=some (.int .i64 c):=cell_of_row G _ 0 _ _ _ e4
  have c0:0 <= c:=c0
  have c1:c <= 9223372036854775807:=c1
  clear a6 aU
  have H1:Hid (rd1 zs a=some (c,a1)):=e1
  clear e1
  by_cases ba:3000 < c
  ·have HN:Hid (rdP zs a=none):=by unfold Hid rdP;rw [H1.out];simp only [Option.bind_some];rw [if_pos (by omega)]
   go_wp2
   exact bodyPost_ret (Zab rfl _ _ (w.heap.size+1) 40 _ (0,0) _ rfl f Tryz.underlying40 rfl Znn) rfl ⟨Zal ac d (by omega),Or.inr ⟨HN.out,⟨_,rfl⟩,_,Z.below d (by omega)⟩⟩
  obtain ⟨n,rfl⟩:=Int.eq_ofNat_of_zero_le c0
  clear f d
  go_wp2_with fail
  refine (Zip _).mono ?_
  rintro e w2 ⟨rfl,aj⟩
  go_wp2_with (refine Zai rfl 295 _ _ rfl w2.heap.size Zca rfl rfl 295 _ (heap_alloc_new _ _) Znl rfl Zer ?_)
  intro F al aL T
  have z:Below G.heap.size G F:=aj.trans ((((Below.refl _ _).alloc (Nat.le_refl _) _).trans aL).mono aj.size)
  have l0:=(bl x0)
  have l1:=(bl N)
  have lc:=(bl e4)
  have x0:=(z.block _ l0).trans x0
  have N:=(z.block _ l1).trans N
  have e4:=(z.block _ lc).trans e4
  have Z:=Z.below z Z.lt
  have ah:w.grownBy F (some P):=Zal ac z ac.size
  have aS:G.heap.size <= w2.heap.size:=aj.size
  have ar:=(bl al)
  clear aj aL T z r0 rf cc O ac l0 l1
  obtain ⟨Wb,aD⟩:∃ Wb,Hid (w2.heap.size=Wb):=⟨_,rfl⟩
  rw [aD.out] at al aS ar ⊢
  clear aD
  have l0:=(bl x0)
  have l1:=(bl N)
  have cc:F.cell? ⟨w.heap.size+1+1,0,none⟩=some (.int .i64 n):=cell_of_row F _ 0 _ _ _ e4
  have lP:=Z.lt
  have E:Below F.heap.size F (F.alloc (Obj.cells #[.slice none 0 0] 40)):=(Below.refl _ _).alloc (Nat.le_refl _) _
  have y0:=(E.block _ l0).trans x0
  have y1:=(E.block _ l1).trans N
  have yw:=(E.block _ ar).trans al
  have yP:=Z.below E lP
  have aM:w.grownBy (F.alloc (Obj.cells #[.slice none 0 0] 40)) (some P):=Zal ah E ah.size
  have s8:(F.alloc (Obj.cells #[.slice none 0 0] 40)).heap.size=F.heap.size+1:=by simp
  have yp:(F.alloc (Obj.cells #[.slice none 0 0] 40)).heap[F.heap.size]? = some (.cells #[.slice none 0 0] 40 (0,0)):=heap_alloc_new _ _
  have aQ:=ah.size
  have c8:(F.alloc (Obj.cells #[.slice none 0 0] 40)).cell? ⟨w.heap.size+1+1,0,none⟩=some (.int .i64 n):=cell_of_row _ _ 0 _ _ _ ((bb e4 E))
  go_wp2_with fail
  obtain ⟨W8,aH⟩:∃ W8,F.alloc (Obj.cells #[.slice none 0 0] 40)=W8:=⟨_,rfl⟩
  rw [aH] at E y0 y1 yw yP aM s8 yp ⊢
  have aP:F.heap.size+1 <= W8.heap.size:=by omega
  have aG:W8.heap.size <= F.heap.size+1:=by omega
  clear s8 E x0 N al Z ah cc c8
  obtain ⟨l,aK⟩:∃ l,Hid (F.heap.size=l):=⟨_,rfl⟩
  rw [aK.out] at yp aP aG l0 l1 ar lP aQ ⊢
  clear aK aH
  go_loopw [31] (fun i wr=>∃ (k:Nat) (Q:List Nd) (b:Int) (vs:Value),k <= n/\i=.int .i64 k/\Hid (Zbn zs k a1=some (Q,b))/\Hid (ZaD Q 0=true)/\Hid (Q.length=k)/\One wr P b/\wr.heap[l]? = some (.cells #[vs] 40 (0,0))/\wr.ownsRow (l+1) 194 5 vs k (ncs Q)/\K2 P l W8 wr) (fun i _=>n - (intOf i).toNat)
  case atStart=>exact ⟨0,[],a1,_,by omega,rfl,rfl,rfl,rfl,yP,yp,World.ownsRow_nil _ _ _ _,K2.refl _ _ _⟩
  case round =>
   obtain ⟨k,Q,b,vs,hk,rfl,HR,HB,HL,Y,ay,L,O⟩:=hrel
   have az:K2 P l w wr:=(K2.ofP aM).trans O
   have z0:=(O.block _ (by omega) (by omega) (by omega)).trans y0
   have z1:=(O.block _ (by omega) (by omega) (by omega)).trans y1
   have zw:=(O.block _ (by omega) (by omega) (by omega)).trans yw
   have bj:=O.size
   have b0:wr.cell? ⟨w.heap.size,0,none⟩=some (.slice ao zs.length ai):=cell_of_row wr _ 0 _ _ _ z0
   have b1:wr.cell? ⟨w.heap.size,1,none⟩=some (.pointer (some ⟨P,0,none⟩)):=cell_of_row wr _ 1 _ _ _ z0
   have bc:=Y.cell
   have a5:Below W0.heap.size W0 wr:=hb.trans (az.below aO hP (by omega))
   obtain ⟨av,cv,rfl⟩:=Zag L
   by_cases bk:k < n
   ·go_wp2_with (refine wpList_load_row rfl 295 _ rfl Wb rfl 295 Zca (0,0) _ zw Tryz.underlying295 rfl Znl ?_)
    refine (Zi9 _ zs W0 wr P b R a5 hP Y).mono ?_
    rintro e C ⟨H,aI⟩
    have lb:=(bl ay)
    have an:=(H.block l lb (by simp;omega)).trans ay
    have U:=(H.block _ (bl z1) (by simp;omega)).trans z1
    have ag:=L.kept H (Zci L (by omega))
    have aT:=O.trans (K2.ofP H)
    have am:=az.trans (K2.ofP H)
    have bd:=H.size
    clear b0 b1 bc
    rcases aI with ⟨x,b',a2,rfl,a3⟩ | ⟨a2,⟨x,p,rfl⟩,q,a3⟩
    ·go_wp2_with (refine Zai rfl 194 _ _ rfl C.heap.size (ndA x) rfl rfl 194 _ (heap_alloc_new _ _) Znj rfl (Zb2 _) ?_)
     intro y A ak _
     have u:Below C.heap.size C y:=((Below.refl _ _).alloc (Nat.le_refl _) _).trans ak
     have aX:x.s.size <= maxLen:=by have:=ZiQ a2;unfold maxLen;omega
     have k0:y.cell? ⟨C.heap.size,0,none⟩=some (.int .i64 x.k):=cell_of_row y _ 0 _ _ _ A
     have k1:y.cell? ⟨C.heap.size,1,none⟩=some (.int .i64 x.n):=cell_of_row y _ 1 _ _ _ A
     have k2:y.cell? ⟨C.heap.size,2,none⟩=some (.string x.s):=cell_of_row y _ 2 _ _ _ A
     have k3:y.cell? ⟨C.heap.size,3,none⟩=some (.int .i64 x.a):=cell_of_row y _ 3 _ _ _ A
     have k4:y.cell? ⟨C.heap.size,4,none⟩=some (.int .i64 x.b):=cell_of_row y _ 4 _ _ _ A
     go_wp2_with fail
     refine (Zdc x k _ aX).mono ?_
     rintro e g ⟨rfl,au⟩
     have l5:=(bl A)
     have m:Below C.heap.size C g:=u.trans (au.mono u.size)
     have W:=(au.block _ l5).trans A
     have ap:=(bb an m)
     have J:=(m.block _ (Array.getElem?_eq_some_iff.1 U).1).trans U
     have r:=a3.below m a3.lt
     have aa:=Zac ag m
     have aJ:=aT.trans (K2.ofB m)
     have ae:=am.trans (K2.ofB m)
     have bf:=aJ.size
     have aB:Hid (Zbn zs (k+1) a1=some (Q ++ [x],b')):=by unfold Hid;rw [ZbL,HR.out];simp only [Option.bind_some];rw [a2];rfl
     have aA:Hid (ZaD (Q ++ [x]) 0=Zaz x k):=by unfold Hid;rw [ZbY,HB.out,Bool.true_and,ZaD,ZaD,Bool.and_true,HL.out,Nat.zero_add]
     clear k0 k1 k2 k3 k4 ak au A u m ag an U H a3
     obtain ⟨nb,aE⟩:∃ nb,Zaz x k=nb:=⟨_,rfl⟩
     rw [aE] at aA ⊢
     clear aE
     cases nb with
     | false =>
      have HN:Hid (rdP zs a=none):=ZlO (k:=k+1) H1.out (by omega) aB.out aA.out
      have r0:g.cell? ⟨w.heap.size+1,0,none⟩=some (.slice none 0 0):=cell_of_row g _ 0 _ _ _ J
      have rf:g.frozen? ⟨w.heap.size+1,0,none⟩=false:=frozen_of_row g _ 0 _ _ J
      have f:(g.setCell ⟨w.heap.size+1,0,none⟩ (.slice none 0 0)).heap[w.heap.size+1]? = some (.cells #[.slice none 0 0] 40 (0,0)):=heap_setCell_same g (w.heap.size+1) 0 _ _ (.slice none 0 0) J
      have d:Below (w.heap.size+1) g (g.setCell ⟨w.heap.size+1,0,none⟩ (.slice none 0 0)):=(Below.refl _ _).setCell (p:=⟨w.heap.size+1,0,none⟩) (Nat.le_refl _) _
      go_wp2
      exact bodyPost_ret (Zab rfl _ _ (w.heap.size+1) 40 _ (0,0) _ rfl f Tryz.underlying40 rfl Znn) rfl ⟨Zal (ae.grown (by omega)) d (by omega),Or.inr ⟨HN.out,⟨_,rfl⟩,_,r.below d (by omega)⟩⟩
     | true =>
      have k0:g.cell? ⟨C.heap.size,0,none⟩=some (.int .i64 x.k):=cell_of_row g _ 0 _ _ _ W
      have k1:g.cell? ⟨C.heap.size,1,none⟩=some (.int .i64 x.n):=cell_of_row g _ 1 _ _ _ W
      have k2:g.cell? ⟨C.heap.size,2,none⟩=some (.string x.s):=cell_of_row g _ 2 _ _ _ W
      have k3:g.cell? ⟨C.heap.size,3,none⟩=some (.int .i64 x.a):=cell_of_row g _ 3 _ _ _ W
      have k4:g.cell? ⟨C.heap.size,4,none⟩=some (.int .i64 x.b):=cell_of_row g _ 4 _ _ _ W
      have kp:g.cell? ⟨l,0,none⟩=some (.slice av k cv):=cell_of_row g _ 0 _ _ _ ap
      have ab:Below g.heap.size g (g.alloc (Obj.cells (ndA x) 194)):=(Below.refl _ _).alloc (Nat.le_refl _) _
      have V:=(bb ap ab)
      have bi:=ab.size
      go_wp2_with (at_builtin;refine wpList_append_lies _ rfl _ _ 38 rfl (l+1) 194 i0 _ 5 48 Tryz.underlying38 hi aY a7 a4 rfl (by decide) _ _ _ rfl (aa.alloc _) ⟨g.heap.size,0,none⟩ 1 1 (ncs [x]) rfl rfl (World.news_of_block (cs:=ndA x) (t:=194) (fr:=(0,0)) (heap_alloc_new g _)) (Za2 _) (by omega) (by unfold maxLen;omega) (by omega) (by simp;omega) _ rfl ?_)
      intro g2 M w8 S B a0 a9
      have ax:∀ j,(Value.slice av k cv).ownBlock=some j -> l+1 <= j:=fun j hj=>(aa.lt j hj).1
      have K:=(B.block l (bl V) (fun e=>by have:=ax l e.symm;omega)).trans V
      have ad:=r.below ab r.lt
      have af:One w8 P b':=(B.block P ad.lt (fun e=>by have:=ax P e.symm;omega)).trans ad
      have aW:=(aJ.trans (K2.ofB ab)).row B (fun j hj=>by have:=ax j hj;omega)
      have bh:w8.cell? ⟨l,0,none⟩=some (.slice av k cv):=cell_of_row w8 _ 0 _ _ _ K
      have be:w8.frozen? ⟨l,0,none⟩=false:=frozen_of_row w8 _ 0 _ _ K
      have aF:=heap_setCell_same w8 l 0 _ _ (.slice (some ⟨g2,0,none⟩) (k+1) M) K
      have aV:=aW.trans (K2.ofM (Zan w8 l 0 (.slice (some ⟨g2,0,none⟩) (k+1) M)))
      have aw:One (w8.setCell ⟨l,0,none⟩ (.slice (some ⟨g2,0,none⟩) (k+1) M)) P b':=(heap_setCell_other w8 ⟨l,0,none⟩ P _ (by show P ≠ l;omega)).trans af
      have I:=ownsRow_setCell_below S (a:=⟨l,0,none⟩) (by show l < l+1;omega) (.slice (some ⟨g2,0,none⟩) (k+1) M)
      have aZ:Hid ((Q ++ [x]).length=k+1):=by unfold Hid;rw [List.length_append,HL.out];rfl
      clear k0 k1 k2 k3 k4 kp B a0 S K af V ab
      go_wp2
      go_roundw
      case rel=>exact ⟨k+1,Q ++ [x],b',_,by omega,by go_num,aB,aA,aZ,aw,aF,by rw [ZaB];exact I,aV⟩
      case measure=>simp [intOf];omega
    ·have HN:Hid (rdP zs a=none):=ZkB (k:=k+1) H1.out (by omega) (by rw [ZbL,HR.out];simp only [Option.bind_some];rw [a2];rfl)
     unfold badV
     go_wp2_with (refine Zai rfl 194 _ _ rfl C.heap.size (ndA x) rfl rfl 194 _ (heap_alloc_new _ _) Znj rfl (Zb2 _) ?_)
     intro y A ak _
     have u:Below C.heap.size C y:=((Below.refl _ _).alloc (Nat.le_refl _) _).trans ak
     have J:=(u.block _ (Array.getElem?_eq_some_iff.1 U).1).trans U
     have r:=a3.below u a3.lt
     have ae:=am.trans (K2.ofB u)
     have r0:y.cell? ⟨w.heap.size+1,0,none⟩=some (.slice none 0 0):=cell_of_row y _ 0 _ _ _ J
     have rf:y.frozen? ⟨w.heap.size+1,0,none⟩=false:=frozen_of_row y _ 0 _ _ J
     have f:(y.setCell ⟨w.heap.size+1,0,none⟩ (.slice none 0 0)).heap[w.heap.size+1]? = some (.cells #[.slice none 0 0] 40 (0,0)):=heap_setCell_same y (w.heap.size+1) 0 _ _ (.slice none 0 0) J
     have d:Below (w.heap.size+1) y (y.setCell ⟨w.heap.size+1,0,none⟩ (.slice none 0 0)):=(Below.refl _ _).setCell (p:=⟨w.heap.size+1,0,none⟩) (Nat.le_refl _) _
     go_wp2
     exact bodyPost_ret (Zab rfl _ _ (w.heap.size+1) 40 _ (0,0) _ rfl f Tryz.underlying40 rfl Znn) rfl ⟨Zal (ae.grown (by omega)) d (by omega),Or.inr ⟨HN.out,⟨p,rfl⟩,_,r.below d (by omega)⟩⟩
   ·have aR:k=n:=by omega
    subst aR
    have HG:Hid (rdP zs a=some (Q,b)):=Zk2 H1.out (by omega) HR.out HB.out (by show Q.length <= 3000;rw [HL.out];omega)
    have kp:wr.cell? ⟨l,0,none⟩=some (.slice av k cv):=cell_of_row wr _ 0 _ _ _ ay
    have r0:wr.cell? ⟨w.heap.size+1,0,none⟩=some (.slice none 0 0):=cell_of_row wr _ 0 _ _ _ z1
    have rf:wr.frozen? ⟨w.heap.size+1,0,none⟩=false:=frozen_of_row wr _ 0 _ _ z1
    have f:(wr.setCell ⟨w.heap.size+1,0,none⟩ (.slice av k cv)).heap[w.heap.size+1]? = some (.cells #[.slice av k cv] 40 (0,0)):=heap_setCell_same wr (w.heap.size+1) 0 _ _ (.slice av k cv) z1
    have d:Below (w.heap.size+1) wr (wr.setCell ⟨w.heap.size+1,0,none⟩ (.slice av k cv)):=(Below.refl _ _).setCell (p:=⟨w.heap.size+1,0,none⟩) (Nat.le_refl _) _
    have I:=Zah (ownsRow_setCell_below L (a:=⟨w.heap.size+1,0,none⟩) (by show w.heap.size+1 < l+1;omega) (.slice av k cv)) (show w.heap.size <= l+1 by omega)
    go_wp2
    exact bodyPost_ret (Zab rfl _ _ (w.heap.size+1) 40 _ (0,0) _ rfl f Tryz.underlying40 rfl Znn) rfl ⟨Zal (az.grown (by omega)) d (by omega),Or.inl ⟨Q,b,_,HG.out,rfl,by rw [HL.out];exact I,Y.below d (by omega)⟩⟩
 ·rw [show [0].length=1 from rfl,Zcj,Option.map_eq_none_iff] at e1
  have HN:Hid (rdP zs a=none):=by unfold Hid rdP;rw [e1];rfl
  unfold badV
  go_wp2
  exact bodyPost_ret (Zab rfl _ _ (w.heap.size+1) 40 _ (0,0) _ rfl f Tryz.underlying40 rfl Znn) rfl ⟨Zal ac d (by omega),Or.inr ⟨HN.out,⟨p,rfl⟩,_,Z.below d (by omega)⟩⟩
theorem Zeg (v:Value)(zs:List Int)(a:Int)(w:World)(R:Row w v zs)(i : -9223372036854775808 <= a)(c:a <= 9223372036854775807) :
  Calls Tryz.prog 118 #[v,.int .i64 a] w fun e q=>e=.returned (tV (gT zs a))/\q=w:=by
 have o:=R
 obtain ⟨u,p,rfl,h,y,k,b⟩:=o
 clear k
 go_enter Tryz.func118,Tryz.ntmps118
 go_wp2_with fail
 refine (Zhh _ zs a w R i c).mono ?_
 rintro e s ⟨rfl,rfl⟩
 generalize hg:gN zs a=r
 obtain ⟨n,next,ok⟩:=r
 have j:Hid (gN zs a=(n,next,ok)):=hg
 clear hg i c R
 cases ok with
 | false =>
  have g:Hid (gT zs a=(⟨#[]⟩,0,false)):=Zkl zs a n next false j.out (Or.inl rfl)
  go_wp2_with fail
  go_ret3
  exact ⟨by rw [g.out];rfl,rfl⟩
 | true =>
  obtain ⟨l,t,m,x⟩:=ZjE zs a n next j.out
  obtain ⟨n,rfl⟩:=Int.eq_ofNat_of_zero_le l
  obtain ⟨next,rfl⟩:=Int.eq_ofNat_of_zero_le m
  by_cases f:(zs.length:Int) - next < n
  ·have g:Hid (gT zs a=(⟨#[]⟩,0,false)):=Zkl zs a _ _ true j.out (Or.inr f)
   go_wp2_with fail
   go_ret3
   exact ⟨by rw [g.out];rfl,rfl⟩
  ·have g:Hid (gT zs a=(strOfNums ((zs.drop next).take n),(next:Int)+n,true)):=Zlf zs a n next j.out (by omega)
   have d:next+n <= zs.length:=by omega
   go_wp2_with (refine Zbz _ rfl _ 161 9 5 rfl Tryz.underlying161 Tryz.underlying9 Tryz.underlying5 _ _ _ ((zs.drop next).take n) rfl (by rw [Zep zs next n d];omega) (by rw [Nat.add_sub_cancel_left];simpa using ZfC b next n d h) ?_)
   all_goals go_ret3
   all_goals exact ⟨by rw [g.out];rfl,rfl⟩
end Go.Proofs.YtfeodlbpnghakaaGreatDoor
