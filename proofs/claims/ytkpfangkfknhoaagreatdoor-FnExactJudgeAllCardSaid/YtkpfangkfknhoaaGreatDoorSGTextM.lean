/-
  Texts that stood by themselves, laid into one.
-/
import Derived.Test.YtkpfangkfknhoaaGreatDoorSPTextM
import Derived.Test.YtkpfangkfknhoaaGreatDoorIWire2M
import Derived.Test.YtkpfangkfknhoaaGreatDoorShapeM
import Derived.Test.YtkpfangkfknhoaaGreatDoorMcTM
import Derived.Test.YtkpfangkfknhoaaGreatDoorMach2M
import Derived.Test.YtkpfangkfknhoaaGreatDoorSR8M
/-
  The contract of (impl.reader).node: one node is read, or there is a mistake. Bounds of the form alone.
-/
set_option maxRecDepth 100000
set_option maxHeartbeats 6400000
namespace Go.Proofs.YtkpfangkfknhoaaGreatDoor
open Go.Proofs.Tryz
open Go.RowKit
theorem Zex (w:World)(a b c d:Obj):Below w.heap.size w ((((w.alloc a).alloc b).alloc c).alloc d)/\((((w.alloc a).alloc b).alloc c).alloc d).heap[w.heap.size]? = some a/\((((w.alloc a).alloc b).alloc c).alloc d).heap[w.heap.size+1]? = some b /\
  ((((w.alloc a).alloc b).alloc c).alloc d).heap[w.heap.size+1+1]? = some c/\((((w.alloc a).alloc b).alloc c).alloc d).heap[w.heap.size+1+1+1]? = some d/\((((w.alloc a).alloc b).alloc c).alloc d).heap.size=w.heap.size+1+1+1+1:=by
 have g:(w.alloc a).heap.size=w.heap.size+1:=by simp
 have f:((w.alloc a).alloc b).heap.size=w.heap.size+1+1:=by simp
 have e:(((w.alloc a).alloc b).alloc c).heap.size=w.heap.size+1+1+1:=by simp
 refine ⟨((((cj _ _).alloc (ce _) _).alloc (by omega) _).alloc (by omega) _).alloc (by omega) _,?_,?_,?_,?_,by simp⟩
 ·rw [cz _ _ (by omega),cz _ _ (by omega),cz _ _ (by omega)];exact co _ _
 ·rw [cz _ _ (by omega),cz _ _ (by omega),<- g];exact co _ _
 ·rw [cz _ _ (by omega),<- f];exact co _ _
 ·rw [<- e];exact co _ _
theorem Zmv (k:Int)(c:1 <= k)(b:k <= 9):∃ (n f:Nat),k=(n:Int)/\1 <= n/\n <= 9/\Zcg[n * 2+1]? = some (.func (.func f) #[] #[])/\Gets f k/\∀ args w,Sem.run prog (callFunc f args) w=.ok (.enter f args) w:=by
 have a:k=1 \/ k=2 \/ k=3 \/ k=4 \/ k=5 \/ k=6 \/ k=7 \/ k=8 \/ k=9:=by omega
 rcases a with rfl | rfl | rfl | rfl | rfl | rfl | rfl | rfl | rfl
 ·exact ⟨1,229,rfl,by omega,by omega,rfl,Zd9,Zbd func229 (by kernel_rfl) rfl⟩
 ·exact ⟨2,231,rfl,by omega,by omega,rfl,ZeW 2 (Or.inl rfl),Zbd func231 (by kernel_rfl) rfl⟩
 ·exact ⟨3,233,rfl,by omega,by omega,rfl,Ziz,Zbd func233 (by kernel_rfl) rfl⟩
 ·exact ⟨4,235,rfl,by omega,by omega,rfl,ZgR,Zbd func235 (by kernel_rfl) rfl⟩
 ·exact ⟨5,237,rfl,by omega,by omega,rfl,Zga,Zbd func237 (by kernel_rfl) rfl⟩
 ·exact ⟨6,239,rfl,by omega,by omega,rfl,ZhX,Zbd func239 (by kernel_rfl) rfl⟩
 ·exact ⟨7,241,rfl,by omega,by omega,rfl,Zk7,Zbd func241 (by kernel_rfl) rfl⟩
 ·exact ⟨8,231,rfl,by omega,by omega,rfl,ZeW 8 (Or.inr (Or.inl rfl)),Zbd func231 (by kernel_rfl) rfl⟩
 ·exact ⟨9,231,rfl,by omega,by omega,rfl,ZeW 9 (Or.inr (Or.inr rfl)),Zbd func231 (by kernel_rfl) rfl⟩
theorem Zjg {zs:List Int}{k a:Int}(h:k < 1 \/ 9 < k):rdB zs k a=none:=by
 unfold rdB;rw [if_neg (by omega),if_neg (by omega),if_neg (by omega),if_neg (by omega),if_neg (by omega),if_neg (by omega),if_neg (by omega)]
theorem Zb4 (x:Nd):(ndA x).all (·.oneCell')=true:=by simp [ndA,Value.oneCell']
def Znb (zs:List Int)(a:Int)(P:Nat)(e:Ending)(w':World):Prop :=
 (∃ x b,rdNd zs a=some (x,b)/\e=.returned (.tuple #[.agg (ndA x),.nilIface])/\One w' P b) \/ (rdNd zs a=none/\(∃ x p,e=.returned (.tuple #[.agg (ndA x),badV p]))/\∃ q,One w' P q)
theorem Zi8 (v:Value)(zs:List Int)(H w:World)(P:Nat)(a:Int)(R:Row H v zs)(hb:Below H.heap.size H w)(hP:H.heap.size <= P)(h1:One w P a) :
  Calls prog 220 #[.agg #[v,.pointer (some ⟨P,0,none⟩)],.agg Zcg] w fun e s=>w.grownBy s (some P)/\Znb zs a P e s:=by
 obtain ⟨K,l,rfl,_⟩:=id R;have aa:=hb.size;have ae:=h1.lt;obtain ⟨z,F,J,C,x3,T⟩:=Zex w (Obj.cells #[Value.slice K zs.length l,Value.pointer (some ⟨P,0,none⟩)] 231) (Obj.cells Zcg 295) (Obj.cells #[.int .i64 0,.int .i64 0,.string ⟨#[]⟩,.int .i64 0,.int .i64 0] 194) (Obj.cells #[.int .i64 0,.int .i64 0,.string ⟨#[]⟩,.int .i64 0,.int .i64 0] 194)
 have hc:((((w.alloc (Obj.cells #[Value.slice K zs.length l,Value.pointer (some ⟨P,0,none⟩)] 231)).alloc (Obj.cells Zcg 295)).alloc (Obj.cells #[.int .i64 0,.int .i64 0,.string ⟨#[]⟩,.int .i64 0,.int .i64 0] 194))).cell? ⟨P,0,none⟩=some (.int .i64 a):=by
  rw [World.cell?_alloc_lt _ _ ⟨P,0,none⟩ (by simp;omega),World.cell?_alloc_lt _ _ ⟨P,0,none⟩ (by simp;omega),World.cell?_alloc_lt _ _ ⟨P,0,none⟩ ae];exact h1.cell
 go_enter func220,ntmps220
 go_wp2_with fail;obtain ⟨B,ag⟩:∃ B,(((w.alloc (Obj.cells #[Value.slice K zs.length l,Value.pointer (some ⟨P,0,none⟩)] 231)).alloc (Obj.cells Zcg 295)).alloc (Obj.cells #[.int .i64 0,.int .i64 0,.string ⟨#[]⟩,.int .i64 0,.int .i64 0] 194)).alloc (Obj.cells #[.int .i64 0,.int .i64 0,.string ⟨#[]⟩,.int .i64 0,.int .i64 0] 194)=B:=⟨_,rfl⟩;rw [ag] at z F J C x3 T ⊢;have g:Below B.heap.size B (B.alloc (Obj.cells (tgt (w.heap.size+1+1+1) [0]) 229)):=(cj _ _).alloc (ce _) _;have O:=hb.trans (z.mono aa);have af:B.heap[w.heap.size+1+1+1]? = some (.cells (ndA (nd0 0)) 194 (0,0)):=x3
 have HC:=ZcT _ zs H (B.alloc (Obj.cells (tgt (w.heap.size+1+1+1) [0]) 229)) P (w.heap.size+1+1+1) B.heap.size a (ndA (nd0 0)) 194 [0] R (O.trans (g.mono O.size)) hP (by omega) ((h1.below z ae).below g (by omega)) ((g.block _ (by omega)).trans af) (by intro o ho;simp at ho;simp [ndA];omega) (co _ _) (by omega) (by omega) (by omega) (by simp);rw [T] at HC;have ai:w.heap.size+1+1+1+1 <= (B.alloc (Obj.cells (tgt (w.heap.size+1+1+1) [0]) 229)).heap.size:=by have:=g.size;omega
 have hG:K2 P (w.heap.size+1+1+1) w (B.alloc (Obj.cells (tgt (w.heap.size+1+1+1) [0]) 229)):=(K2.ofB z).trans (K2.ofB g);have F:=(g.block _ (by omega)).trans F;have J:=(g.block _ (by omega)).trans J;have C:=(g.block _ (by omega)).trans C;clear T hc x3 af g;refine HC.mono ?_;rintro e j ⟨S,h⟩;have F:=(S.block _ (by omega) (by omega) (by omega)).trans F;have J:=(S.block _ (by omega) (by omega) (by omega)).trans J;have C:=(S.block _ (by omega) (by omega) (by omega)).trans C;have S:=hG.trans S;have G:w.grownBy j (some P):=S.grown (by omega);clear hG ai HC z O ag;rcases h with ⟨q,D,rfl,M,e4⟩ | ⟨D,⟨p,rfl⟩,⟨q,M⟩,-⟩
 ·rw [show [0].length=1 from rfl,Zce,Option.map_eq_some_iff] at D
  obtain ⟨⟨k,b⟩,D,rfl⟩:=D;have Z:Hid (rdNd zs a=rdB zs k b):=by unfold Hid rdNd;rw [D];rfl
  obtain ⟨k0,k1,_,_⟩:=Zbc D;have M:One j P b:=M;have e4:j.heap[w.heap.size+1+1+1]? = some (.cells (ndA (nd0 k)) 194 (0,0)):=e4;have c0:j.cell? ⟨w.heap.size+1+1+1,0,none⟩=some (.int .i64 k):=cd j _ 0 _ _ _ e4;have k0:0 <= k:=k0;have k1:k <= 9223372036854775807:=k1;clear D
  by_cases aj:k < 1
  ·go_wp2_with (refine Zai rfl 194 _ _ rfl (w.heap.size+1+1) (ndA (nd0 0)) rfl rfl 194 _ C Zn0 rfl (Zb4 _) ?_)
   intro c u i _;go_wp2;exact cx (Zac rfl _ _ (w.heap.size+1+1) 194 _ (0,0) _ rfl u underlying194 rfl Zn0) rfl ⟨Zal G i (by omega),Or.inr ⟨by rw [Z.out];exact Zjg (Or.inl aj),⟨_,_,rfl⟩,b,M.below i (by omega)⟩⟩
  by_cases ak:9 < k
  ·go_wp2_with (refine Zai rfl 194 _ _ rfl (w.heap.size+1+1) (ndA (nd0 0)) rfl rfl 194 _ C Zn0 rfl (Zb4 _) ?_)
   intro c u i _;go_wp2;exact cx (Zac rfl _ _ (w.heap.size+1+1) 194 _ (0,0) _ rfl u underlying194 rfl Zn0) rfl ⟨Zal G i (by omega),Or.inr ⟨by rw [Z.out];exact Zjg (Or.inr ak),⟨_,_,rfl⟩,b,M.below i (by omega)⟩⟩
  obtain ⟨n,f,rfl,am,an,hw,I,ad⟩:=Zmv k (by omega) (by omega);have Y:=I (.slice K zs.length l) zs H j.drew P (w.heap.size+1+1+1) b R;have ah:Below H.heap.size H j.drew:=(hb.grown G aa (fun k hk=>by simp at hk;omega)).drew;have Y:=Y ah hP (by omega) (by omega) M e4;have b0:j.cell? ⟨w.heap.size,0,none⟩=some (.slice K zs.length l):=cd j _ 0 _ _ _ F;have b1:j.cell? ⟨w.heap.size,1,none⟩=some (.pointer (some ⟨P,0,none⟩)):=cd j _ 1 _ _ _ F;have c5:j.cell? ⟨w.heap.size+1,n * 2+1,none⟩=some (.func (.func f) #[] #[]):=(cd j _ (n * 2+1) _ _ _ J).trans hw
  have Y:Calls prog f #[.agg #[.slice K zs.length l,.pointer (some ⟨P,0,none⟩)],.pointer (some ⟨w.heap.size+1+1+1,0,none⟩)] j.drew fun e s=>∃ r,e=.returned r/\K2 P (w.heap.size+1+1+1) j.drew s/\Hid (((∃ x E,rdB zs n b=some (x,E)/\r=.nilIface/\One s P E/\s.heap[w.heap.size+1+1+1]? = some (.cells (ndA x) 194 (0,0)))
   \/ (rdB zs n b=none/\(∃ p,r=badV p)/\(∃ q,One s P q)/\∃ x:Nd,x.k=(n:Int)/\s.heap[w.heap.size+1+1+1]? = some (.cells (ndA x) 194 (0,0))))):=Y.mono (by
    rintro e s ⟨ac,h'⟩;rcases h' with ⟨x,E,A,rfl,Q,d⟩ | ⟨A,⟨p,rfl⟩,Q,d⟩
    ·exact ⟨_,rfl,ac,Or.inl ⟨x,E,A,rfl,Q,d⟩⟩
    ·exact ⟨_,rfl,ac,Or.inr ⟨A,⟨p,rfl⟩,Q,d⟩⟩)
  clear I e4
  have SS:∀ (c:World) (r:Value),K2 P (w.heap.size+1+1+1) j.drew c -> Hid (((∃ x E,rdB zs n b=some (x,E)/\r=.nilIface/\One c P E/\c.heap[w.heap.size+1+1+1]? = some (.cells (ndA x) 194 (0,0)))
   \/ (rdB zs n b=none/\(∃ p,r=badV p)/\(∃ q,One c P q)/\∃ x:Nd,x.k=(n:Int)/\c.heap[w.heap.size+1+1+1]? = some (.cells (ndA x) 194 (0,0))))) ->
    c.cell? ⟨w.heap.size+1+1+1,0,none⟩=some (.int .i64 n)/\c.cell? ⟨w.heap.size+1,n * 2+1,none⟩=some (.func (.func f) #[] #[])/\c.cell? ⟨w.heap.size,0,none⟩=some (.slice K zs.length l)/\c.cell? ⟨w.heap.size,1,none⟩=some (.pointer (some ⟨P,0,none⟩)):=by
   intro c r k2 W;have l0:=(bl F);have l1:=(bl J);have y0:=(k2.block _ l0 (by omega) (by omega)).trans F;have y1:=(k2.block _ l1 (by omega) (by omega)).trans J
   have X:∃ x:Nd,x.k=(n:Int)/\c.heap[w.heap.size+1+1+1]? = some (.cells (ndA x) 194 (0,0)):=by
    rcases W.out with ⟨x,_,A,_,_,d⟩ | ⟨_,_,_,d⟩
    ·exact ⟨x,Zmu A,d⟩
    ·exact d
   obtain ⟨x,hx,X⟩:=X;refine ⟨?_,(cd c _ (n * 2+1) _ _ _ y1).trans hw,cd c _ 0 _ _ _ y0,cd c _ 1 _ _ _ y0⟩;rw [cd c _ 0 _ _ _ X,<- hx];rfl
  have al:(n:Int) <= 9:=by omega
  go_wp2_with fail
  go_region_held (fun s=>s.cell? ⟨w.heap.size+1+1+1,0,none⟩=some (.int .i64 n)/\s.cell? ⟨w.heap.size+1,n * 2+1,none⟩=some (.func (.func f) #[] #[])/\s.cell? ⟨w.heap.size,0,none⟩=some (.slice K zs.length l)/\s.cell? ⟨w.heap.size,1,none⟩=some (.pointer (some ⟨P,0,none⟩))) (first | exact s2 | go_keep) (first
   | (refine Y.mono ?_;rintro e c ⟨r,rfl,k2,W⟩;have s2:=SS c r k2 W))
  all_goals
   have l2:=(bl C);have X:=(k2.block _ l2 (by omega) (by omega)).trans C;have ab:w.grownBy c (some P):=((S.trans (K2.ofB (cj _ j).drew)).trans k2).grown (by omega);clear Y SS s2 b0 b1 c5 c0 ad;rcases W.out with ⟨x,E,A,rfl,Q,d⟩ | ⟨A,⟨p,rfl⟩,⟨q,Q⟩,x,y,d⟩
   ·have y:=Zmu A
    obtain ⟨xk,U,m,N,L⟩:=x
    dsimp only at y
    subst y;have c0:c.cell? ⟨w.heap.size+1+1+1,0,none⟩=some (.int .i64 n):=cd c _ 0 _ _ _ d;have c1:c.cell? ⟨w.heap.size+1+1+1,1,none⟩=some (.int .i64 U):=cd c _ 1 _ _ _ d;have c2:c.cell? ⟨w.heap.size+1+1+1,2,none⟩=some (.string m):=cd c _ 2 _ _ _ d;have c3:c.cell? ⟨w.heap.size+1+1+1,3,none⟩=some (.int .i64 N):=cd c _ 3 _ _ _ d;have c4:c.cell? ⟨w.heap.size+1+1+1,4,none⟩=some (.int .i64 L):=cd c _ 4 _ _ _ d;clear W
    go_wp2_with (refine Zai rfl 194 _ _ rfl (w.heap.size+1+1) (ndA ⟨n,U,m,N,L⟩) rfl rfl 194 _ X Zn0 rfl (Zb4 _) ?_)
    intro w3 V t _;go_wp2;exact cx (Zac rfl _ _ (w.heap.size+1+1) 194 _ (0,0) _ rfl V underlying194 rfl Zn0) rfl ⟨Zal ab t (by omega),Or.inl ⟨⟨n,U,m,N,L⟩,E,by rw [Z.out];exact A,rfl,Q.below t (by omega)⟩⟩
   ·obtain ⟨xk,U,m,N,L⟩:=x
    dsimp only at y
    subst y;have c0:c.cell? ⟨w.heap.size+1+1+1,0,none⟩=some (.int .i64 n):=cd c _ 0 _ _ _ d;have c1:c.cell? ⟨w.heap.size+1+1+1,1,none⟩=some (.int .i64 U):=cd c _ 1 _ _ _ d;have c2:c.cell? ⟨w.heap.size+1+1+1,2,none⟩=some (.string m):=cd c _ 2 _ _ _ d;have c3:c.cell? ⟨w.heap.size+1+1+1,3,none⟩=some (.int .i64 N):=cd c _ 3 _ _ _ d;have c4:c.cell? ⟨w.heap.size+1+1+1,4,none⟩=some (.int .i64 L):=cd c _ 4 _ _ _ d;clear W
    go_wp2_with (refine Zai rfl 194 _ _ rfl (w.heap.size+1+1) (ndA ⟨n,U,m,N,L⟩) rfl rfl 194 _ X Zn0 rfl (Zb4 _) ?_)
    intro w3 V t _;go_wp2;exact cx (Zac rfl _ _ (w.heap.size+1+1) 194 _ (0,0) _ rfl V underlying194 rfl Zn0) rfl ⟨Zal ab t (by omega),Or.inr ⟨by rw [Z.out];exact A,⟨⟨n,U,m,N,L⟩,p,rfl⟩,q,Q.below t (by omega)⟩⟩
 ·rw [show [0].length=1 from rfl,Zce,Option.map_eq_none_iff] at D
  have Z:Hid (rdNd zs a=none):=by unfold Hid rdNd;rw [D];rfl
  unfold badV
  go_wp2_with (refine Zai rfl 194 _ _ rfl (w.heap.size+1+1) (ndA (nd0 0)) rfl rfl 194 _ C Zn0 rfl (Zb4 _) ?_)
  intro c u i _;go_wp2;exact cx (Zac rfl _ _ (w.heap.size+1+1) 194 _ (0,0) _ rfl u underlying194 rfl Zn0) rfl ⟨Zal G i (by omega),Or.inr ⟨Z.out,⟨_,p,rfl⟩,q,M.below i (by omega)⟩⟩
theorem ZcQ (zs:List Int)(a:Int):(gT zs a).1.size <= zs.length:=by
 unfold gT;split
 ·show (strOfNums _).size <= _
  rw [Zjx,List.length_take,List.length_drop];omega
 ·show (0:Nat) <= _
  omega
theorem ZlG {zs:List Int}{k a b:Int}{x:Nd}(h:rdB zs k a=some (x,b)):x.s.size <= zs.length:=by
 unfold rdB at h
 repeat' split at h
 all_goals first
  | (cases h;done)
  | (cases h;first | exact ZcQ zs a | exact Nat.zero_le _)
  | (rw [Option.map_eq_some_iff] at h;obtain ⟨_,_,h⟩:=h;cases h;exact Nat.zero_le _)
  | (rw [Option.bind_eq_some_iff] at h;obtain ⟨_,_,h⟩:=h;rw [Option.map_eq_some_iff] at h;obtain ⟨_,_,h⟩:=h;cases h;exact Nat.zero_le _)
theorem Zi5 {zs:List Int}{a b:Int}{x:Nd}(h:rdNd zs a=some (x,b)):x.s.size <= zs.length:=by
 unfold rdNd at h;rw [Option.bind_eq_some_iff] at h;obtain ⟨_,_,h⟩:=h;exact ZlG h
theorem ZbN (zs:List Int):∀ (n:Nat) (a:Int),Zbo zs (n+1) a=(Zbo zs n a).bind fun q=>(rdNd zs q.2).map fun p=>(q.1 ++ [p.1],p.2)
 | 0,a=>by
  simp only [Zbo,Option.bind_some];cases rdNd zs a <;> rfl
 | n+1,a=>by
  rw [Zbo];cases h:rdNd zs a with
  | none=>simp [Zbo,h]
  | some p =>
   simp only [Option.bind_some];rw [ZbN zs n p.2,Zbo,h];simp only [Option.bind_some];cases Zbo zs n p.2 with
   | none=>rfl
   | some q=>simp only [Option.bind_some,Option.map_some];cases rdNd zs q.2 <;> rfl
theorem Zem {zs:List Int}{a:Int}:∀ {n m:Nat},n <= m -> Zbo zs n a=none -> Zbo zs m a=none
 | n,0,h,e=>by
  obtain rfl:n=0:=by omega
  exact e
 | n,m+1,h,e=>by
  rcases Nat.lt_or_ge n (m+1) with b | b
  ·rw [ZbN,Zem (by omega) e];rfl
  ·obtain rfl:n=m+1:=by omega
   exact e
theorem ZfJ {zs:List Int}{a:Int}{n:Nat}{q:List Nd × Int}(h:Zbo zs n a=some q):∀ {m:Nat} {t:List Nd × Int},n <= m -> Zbo zs m a=some t -> ∃ ys,t.1=q.1 ++ ys
 | 0,t,hm,e=>by
  obtain rfl:n=0:=by omega
  rw [h] at e;cases e;exact ⟨[],by simp⟩
 | m+1,t,hm,e=>by
  rcases Nat.lt_or_ge n (m+1) with f | f
  ·rw [ZbN,Option.bind_eq_some_iff] at e
   obtain ⟨u,c,b⟩:=e;rw [Option.map_eq_some_iff] at b;obtain ⟨p,_,rfl⟩:=b;obtain ⟨ys,d⟩:=ZfJ h (by omega) c;exact ⟨ys ++ [p.1],by show u.1 ++ [p.1]=_;rw [d,List.append_assoc]⟩
  ·obtain rfl:n=m+1:=by omega
   rw [h] at e;cases e;exact ⟨[],by simp⟩
theorem Zma {zs:List Int}{a c b:Int}{k:Nat}{q:List Nd × Int}(g:rd1 zs a=some (c,b))(e:k <= c.toNat)(f:Zbo zs k b=some q)(i:ZaG q.1 0=false):rdP zs a=none:=by
 unfold rdP;rw [g];simp only [Option.bind_some];split
 ·rfl
 ·cases h:Zbo zs c.toNat b with
  | none=>rfl
  | some t =>
   obtain ⟨ys,d⟩:=ZfJ f e h;simp only [Option.bind_some];rw [if_neg];unfold Zau;rw [d,Zb1,i,Bool.false_and,Bool.and_false];simp
theorem Zld {zs:List Int}{a c b:Int}{k:Nat}(f:rd1 zs a=some (c,b))(d:k <= c.toNat)(e:Zbo zs k b=none):rdP zs a=none:=by
 unfold rdP;rw [f];simp only [Option.bind_some];rw [Zem d e];split <;> rfl
theorem Zk8 {zs:List Int}{a c b:Int}{q:List Nd × Int}(e:rd1 zs a=some (c,b))(h:c <= 3000)(d:Zbo zs c.toNat b=some q)(g:ZaG q.1 0=true)(f:q.1.length <= 3000):rdP zs a=some q:=by
 unfold rdP;rw [e];simp only [Option.bind_some];rw [if_neg (by omega),d];simp only [Option.bind_some];rw [if_pos];unfold Zau;rw [g,decide_eq_true f];rfl
theorem Zck {w:World}{base k:Nat}{e:TypeId}{v:Value}{n:Nat}{a:List Value}(h:w.ownsRow base e k v n a){P:Nat}(b:P < base):v.ownBlock=none \/ v.ownBlock ≠ some P:=by
 right;intro e;have:=(h.lt P e).1;omega
theorem K2.row {P M:Nat}{W w b:World}{row:Option Nat}(h:K2 P M W w)(a:w.grownBy b row)(d:∀ j,row=some j -> W.heap.size <= j):K2 P M W b :=
 ⟨a.os.trans h.os,a.tape.trans h.tape,a.output.trans h.output,Nat.le_trans h.size a.size,fun i hi f c=>(a.block i (cy hi h.size) (fun e=>by have:=d i e.symm;omega)).trans (h.block i hi f c)⟩
def ZmE (B:Nat)(zs:List Int)(a:Int)(P:Nat)(e:Ending)(w':World):Prop :=
 (∃ xs b vs,rdP zs a=some (xs,b)/\e=.returned (.tuple #[.agg #[vs],.nilIface])/\w'.ownsRow B 194 5 vs xs.length (ncs xs)/\One w' P b) \/ (rdP zs a=none/\(∃ p,e=.returned (.tuple #[.agg #[.slice none 0 0],badV p]))/\∃ q,One w' P q)
theorem Zg2 (w:World)(a b c:Obj):Below w.heap.size w (((w.alloc a).alloc b).alloc c)/\(((w.alloc a).alloc b).alloc c).heap[w.heap.size]? = some a/\(((w.alloc a).alloc b).alloc c).heap[w.heap.size+1]? = some b /\
  (((w.alloc a).alloc b).alloc c).heap[w.heap.size+1+1]? = some c/\(((w.alloc a).alloc b).alloc c).heap.size=w.heap.size+1+1+1:=by
 have e:(w.alloc a).heap.size=w.heap.size+1:=by simp
 have d:((w.alloc a).alloc b).heap.size=w.heap.size+1+1:=by simp
 refine ⟨(((cj _ _).alloc (ce _) _).alloc (by omega) _).alloc (by omega) _,?_,?_,?_,by simp⟩
 ·rw [cz _ _ (by omega),cz _ _ (by omega)];exact co _ _
 ·rw [cz _ _ (by omega),<- e];exact co _ _
 ·rw [<- d];exact co _ _
theorem Zec (v:Value)(zs:List Int)(W0 w:World)(P:Nat)(a:Int)(R:Row W0 v zs)(hb:Below W0.heap.size W0 w)(hP:W0.heap.size <= P)(h1:One w P a) :
  Calls prog 213 #[.agg #[v,.pointer (some ⟨P,0,none⟩)]] w fun e w'=>w.grownBy w' (some P)/\ZmE w.heap.size zs a P e w':=by
 obtain ⟨i0,hi,aV,a8,aU⟩:=info_parts Zn1;obtain ⟨ao,al,rfl,_,bj,_⟩:=id R;have aB:=hb.size;have aI:=h1.lt;obtain ⟨S,x0,L,x2,X⟩:=Zg2 w (Obj.cells #[Value.slice ao zs.length al,Value.pointer (some ⟨P,0,none⟩)] 231) (Obj.cells #[.slice none 0 0] 40) (Obj.cells #[.int .i64 0] 3)
 have hc:((w.alloc (Obj.cells #[Value.slice ao zs.length al,Value.pointer (some ⟨P,0,none⟩)] 231)).alloc (Obj.cells #[.slice none 0 0] 40)).cell? ⟨P,0,none⟩=some (.int .i64 a):=by
  rw [World.cell?_alloc_lt _ _ ⟨P,0,none⟩ (by simp;omega),World.cell?_alloc_lt _ _ ⟨P,0,none⟩ aI];exact h1.cell
 go_enter func213,ntmps213
 go_wp2_with fail;obtain ⟨W3,aD⟩:∃ W3,((w.alloc (Obj.cells #[Value.slice ao zs.length al,Value.pointer (some ⟨P,0,none⟩)] 231)).alloc (Obj.cells #[.slice none 0 0] 40)).alloc (Obj.cells #[.int .i64 0] 3)=W3:=⟨_,rfl⟩;rw [aD] at S x0 L x2 X ⊢;have F:Below W3.heap.size W3 (W3.alloc (Obj.cells (tgt (w.heap.size+1+1) [0]) 229)):=(cj _ _).alloc (ce _) _;have au:=hb.trans (S.mono aB);have HC:=ZcT _ zs W0 (W3.alloc (Obj.cells (tgt (w.heap.size+1+1) [0]) 229)) P (w.heap.size+1+1) W3.heap.size a #[.int .i64 0] 3 [0] R (au.trans (F.mono au.size)) hP (by omega) ((h1.below S aI).below F (by omega)) ((F.block _ (by omega)).trans x2) (by intro o ho;simp at ho;simp;omega) (co _ _) (by omega) (by omega) (by omega) (by simp);rw [X] at HC;have aQ:w.heap.size+1+1+1 <= (W3.alloc (Obj.cells (tgt (w.heap.size+1+1) [0]) 229)).heap.size:=by have:=F.size;omega
 have hG:K2 P (w.heap.size+1+1) w (W3.alloc (Obj.cells (tgt (w.heap.size+1+1) [0]) 229)):=(K2.ofB S).trans (K2.ofB F);have x0:=(F.block _ (by omega)).trans x0;have L:=(F.block _ (by omega)).trans L;clear X hc x2 F;refine HC.mono ?_;rintro e G ⟨O,h⟩;have x0:=(O.block _ (by omega) (by omega) (by omega)).trans x0;have L:=(O.block _ (by omega) (by omega) (by omega)).trans L;have O:=hG.trans O;have ae:w.grownBy G (some P):=O.grown (by omega);clear hG aQ HC S au aD;have r0:G.cell? ⟨w.heap.size+1,0,none⟩=some (.slice none 0 0):=cd G _ 0 _ _ _ L;have rf:G.frozen? ⟨w.heap.size+1,0,none⟩=false:=cw G _ 0 _ _ L;have f:(G.setCell ⟨w.heap.size+1,0,none⟩ (.slice none 0 0)).heap[w.heap.size+1]? = some (.cells #[.slice none 0 0] 40 (0,0)):=cu G (w.heap.size+1) 0 _ _ (.slice none 0 0) L
 have d:Below (w.heap.size+1) G (G.setCell ⟨w.heap.size+1,0,none⟩ (.slice none 0 0)):=(cj _ _).setCell (p:=⟨w.heap.size+1,0,none⟩) (ce _) _;rcases h with ⟨q,e1,rfl,U,e4⟩ | ⟨e1,⟨p,rfl⟩,⟨q,U⟩,-⟩
 ·rw [show [0].length=1 from rfl,Zce,Option.map_eq_some_iff] at e1
  obtain ⟨⟨c,a1⟩,e1,rfl⟩:=e1;obtain ⟨c0,c1,aR,a5⟩:=Zbc e1;have U:One G P a1:=U;have e4:G.heap[w.heap.size+1+1]? = some (.cells #[.int .i64 c] 3 (0,0)):=e4;have cc:G.cell? ⟨w.heap.size+1+1,0,none⟩=some (.int .i64 c):=cd G _ 0 _ _ _ e4;have c0:0 <= c:=c0;have c1:c <= 9223372036854775807:=c1;clear aR a5;have H1:Hid (rd1 zs a=some (c,a1)):=e1;clear e1
  by_cases bf:3000 < c
  ·have HN:Hid (rdP zs a=none):=by unfold Hid rdP;rw [H1.out];simp only [Option.bind_some];rw [if_pos (by omega)]
   go_wp2;exact cx (Zac rfl _ _ (w.heap.size+1) 40 _ (0,0) _ rfl f underlying40 rfl ZnX) rfl ⟨Zal ae d (by omega),Or.inr ⟨HN.out,⟨_,rfl⟩,_,U.below d (by omega)⟩⟩
  obtain ⟨n,rfl⟩:=cG c0;clear f d;go_wp2_with fail;refine (Zim _).mono ?_;rintro e w2 ⟨rfl,ak⟩
  go_wp2_with (refine Zai rfl 295 _ _ rfl w2.heap.size Zcg rfl rfl 295 _ (co _ _) ZnZ rfl Zei ?_)
  intro E aj aG X;have z:Below G.heap.size G E:=ak.trans ((((cj _ _).alloc (ce _) _).trans aG).mono ak.size);have l0:=(bl x0);have l1:=(bl L);have lc:=(bl e4);have x0:=(z.block _ l0).trans x0;have L:=(z.block _ l1).trans L;have e4:=(z.block _ lc).trans e4;have U:=U.below z U.lt;have ah:w.grownBy E (some P):=Zal ae z ae.size;have aZ:G.heap.size <= w2.heap.size:=ak.size;have az:=(bl aj);clear ak aG X z r0 rf cc O ae l0 l1;obtain ⟨Wb,aO⟩:∃ Wb,Hid (w2.heap.size=Wb):=⟨_,rfl⟩;rw [aO.out] at aj aZ az ⊢;clear aO;have l0:=(bl x0);have l1:=(bl L);have cc:E.cell? ⟨w.heap.size+1+1,0,none⟩=some (.int .i64 n):=cd E _ 0 _ _ _ e4;have lP:=U.lt;have D:Below E.heap.size E (E.alloc (Obj.cells #[.slice none 0 0] 40)):=(cj _ _).alloc (ce _) _;have y0:=(D.block _ l0).trans x0;have y1:=(D.block _ l1).trans L;have yw:=(D.block _ az).trans aj
  have yP:=U.below D lP;have aM:w.grownBy (E.alloc (Obj.cells #[.slice none 0 0] 40)) (some P):=Zal ah D ah.size;have s8:(E.alloc (Obj.cells #[.slice none 0 0] 40)).heap.size=E.heap.size+1:=by simp
  have yp:(E.alloc (Obj.cells #[.slice none 0 0] 40)).heap[E.heap.size]? = some (.cells #[.slice none 0 0] 40 (0,0)):=co _ _;have a7:=ah.size;have c8:(E.alloc (Obj.cells #[.slice none 0 0] 40)).cell? ⟨w.heap.size+1+1,0,none⟩=some (.int .i64 n):=cd _ _ 0 _ _ _ ((bb e4 D));go_wp2_with fail;obtain ⟨W8,aF⟩:∃ W8,E.alloc (Obj.cells #[.slice none 0 0] 40)=W8:=⟨_,rfl⟩;rw [aF] at D y0 y1 yw yP aM s8 yp ⊢;have a0:E.heap.size+1 <= W8.heap.size:=by omega
  have aN:W8.heap.size <= E.heap.size+1:=by omega
  clear s8 D x0 L aj U ah cc c8;obtain ⟨l,aK⟩:∃ l,Hid (E.heap.size=l):=⟨_,rfl⟩;rw [aK.out] at yp a0 aN l0 l1 az lP a7 ⊢;clear aK aF
  go_loopw [31] (fun i wr=>∃ (k:Nat) (Q:List Nd) (b:Int) (vs:Value),k <= n/\i=.int .i64 k/\Hid (Zbo zs k a1=some (Q,b))/\Hid (ZaG Q 0=true)/\Hid (Q.length=k)/\One wr P b/\wr.heap[l]? = some (.cells #[vs] 40 (0,0))/\wr.ownsRow (l+1) 194 5 vs k (ncs Q)/\K2 P l W8 wr) (fun i _=>n - (intOf i).toNat)
  case atStart=>exact ⟨0,[],a1,_,by omega,rfl,rfl,rfl,rfl,yP,yp,World.ownsRow_nil _ _ _ _,K2.refl _ _ _⟩
  case round =>
   obtain ⟨k,Q,b,vs,hk,rfl,HR,HB,HL,Z,aw,M,O⟩:=hrel;have ay:K2 P l w wr:=(K2.ofP aM).trans O;have z0:=(O.block _ (by omega) (by omega) (by omega)).trans y0;have z1:=(O.block _ (by omega) (by omega) (by omega)).trans y1;have zw:=(O.block _ (by omega) (by omega) (by omega)).trans yw;have bi:=O.size;have b0:wr.cell? ⟨w.heap.size,0,none⟩=some (.slice ao zs.length al):=cd wr _ 0 _ _ _ z0;have b1:wr.cell? ⟨w.heap.size,1,none⟩=some (.pointer (some ⟨P,0,none⟩)):=cd wr _ 1 _ _ _ z0;have bc:=Z.cell;have aT:Below W0.heap.size W0 wr:=hb.trans (ay.below aB hP (by omega));obtain ⟨av,cv,rfl⟩:=Zag M
   by_cases bk:k < n
   ·go_wp2_with (refine cE rfl 295 _ rfl Wb rfl 295 Zcg (0,0) _ zw underlying295 rfl ZnZ ?_)
    refine (Zi8 _ zs W0 wr P b R aT hP Z).mono ?_;rintro e C ⟨H,aH⟩;have lb:=(bl aw);have an:=(H.block l lb (by simp;omega)).trans aw;have W:=(H.block _ (bl z1) (by simp;omega)).trans z1;have af:=M.kept H (Zck M (by omega));have aX:=O.trans (K2.ofP H);have am:=ay.trans (K2.ofP H);have be:=H.size;clear b0 b1 bc;rcases aH with ⟨x,b',a2,rfl,a3⟩ | ⟨a2,⟨x,p,rfl⟩,q,a3⟩
    ·go_wp2_with (refine Zai rfl 194 _ _ rfl C.heap.size (ndA x) rfl rfl 194 _ (co _ _) Zn0 rfl (Zb4 _) ?_)
     intro y B ai _;have u:Below C.heap.size C y:=((cj _ _).alloc (ce _) _).trans ai;have aS:x.s.size <= maxLen:=by have:=Zi5 a2;unfold maxLen;omega
     have k0:y.cell? ⟨C.heap.size,0,none⟩=some (.int .i64 x.k):=cd y _ 0 _ _ _ B;have k1:y.cell? ⟨C.heap.size,1,none⟩=some (.int .i64 x.n):=cd y _ 1 _ _ _ B;have k2:y.cell? ⟨C.heap.size,2,none⟩=some (.string x.s):=cd y _ 2 _ _ _ B;have k3:y.cell? ⟨C.heap.size,3,none⟩=some (.int .i64 x.a):=cd y _ 3 _ _ _ B;have k4:y.cell? ⟨C.heap.size,4,none⟩=some (.int .i64 x.b):=cd y _ 4 _ _ _ B;go_wp2_with fail;refine (Zdg x k _ aS).mono ?_;rintro e g ⟨rfl,aq⟩;have l5:=(bl B);have m:Below C.heap.size C g:=u.trans (aq.mono u.size);have Y:=(aq.block _ l5).trans B;have ap:=(bb an m);have I:=(m.block _ (Array.getElem?_eq_some_iff.1 W).1).trans W;have r:=a3.below m a3.lt;have ac:=Zad af m;have aC:=aX.trans (K2.ofB m);have T:=am.trans (K2.ofB m);have bh:=aC.size
     have aJ:Hid (Zbo zs (k+1) a1=some (Q ++ [x],b')):=by unfold Hid;rw [ZbN,HR.out];simp only [Option.bind_some];rw [a2];rfl
     have ar:Hid (ZaG (Q ++ [x]) 0=ZaA x k):=by unfold Hid;rw [Zb1,HB.out,Bool.true_and,ZaG,ZaG,Bool.and_true,HL.out,Nat.zero_add]
     clear k0 k1 k2 k3 k4 ai aq B u m af an W H a3;obtain ⟨nb,aE⟩:∃ nb,ZaA x k=nb:=⟨_,rfl⟩;rw [aE] at ar ⊢;clear aE;cases nb with
     | false =>
      have HN:Hid (rdP zs a=none):=Zma (k:=k+1) H1.out (by omega) aJ.out ar.out;have r0:g.cell? ⟨w.heap.size+1,0,none⟩=some (.slice none 0 0):=cd g _ 0 _ _ _ I;have rf:g.frozen? ⟨w.heap.size+1,0,none⟩=false:=cw g _ 0 _ _ I;have f:(g.setCell ⟨w.heap.size+1,0,none⟩ (.slice none 0 0)).heap[w.heap.size+1]? = some (.cells #[.slice none 0 0] 40 (0,0)):=cu g (w.heap.size+1) 0 _ _ (.slice none 0 0) I;have d:Below (w.heap.size+1) g (g.setCell ⟨w.heap.size+1,0,none⟩ (.slice none 0 0)):=(cj _ _).setCell (p:=⟨w.heap.size+1,0,none⟩) (ce _) _;go_wp2;exact cx (Zac rfl _ _ (w.heap.size+1) 40 _ (0,0) _ rfl f underlying40 rfl ZnX) rfl ⟨Zal (T.grown (by omega)) d (by omega),Or.inr ⟨HN.out,⟨_,rfl⟩,_,r.below d (by omega)⟩⟩
     | true =>
      have k0:g.cell? ⟨C.heap.size,0,none⟩=some (.int .i64 x.k):=cd g _ 0 _ _ _ Y;have k1:g.cell? ⟨C.heap.size,1,none⟩=some (.int .i64 x.n):=cd g _ 1 _ _ _ Y;have k2:g.cell? ⟨C.heap.size,2,none⟩=some (.string x.s):=cd g _ 2 _ _ _ Y;have k3:g.cell? ⟨C.heap.size,3,none⟩=some (.int .i64 x.a):=cd g _ 3 _ _ _ Y;have k4:g.cell? ⟨C.heap.size,4,none⟩=some (.int .i64 x.b):=cd g _ 4 _ _ _ Y;have kp:g.cell? ⟨l,0,none⟩=some (.slice av k cv):=cd g _ 0 _ _ _ ap;have V:Below g.heap.size g (g.alloc (Obj.cells (ndA x) 194)):=(cj _ _).alloc (ce _) _;have ag:=(bb ap V);have bd:=V.size
      go_wp2_with (at_builtin;refine wpList_append_lies _ rfl _ _ 38 rfl (l+1) 194 i0 _ 5 48 underlying38 hi aV a8 aU rfl (by decide) _ _ _ rfl (ac.alloc _) ⟨g.heap.size,0,none⟩ 1 1 (ncs [x]) rfl rfl (World.news_of_block (cs:=ndA x) (t:=194) (fr:=(0,0)) (co g _)) (Za6 _) (by omega) (by unfold maxLen;omega) (by omega) (by simp;omega) _ rfl ?_)
      intro g2 K w8 aa A a6 a9;have ax:∀ j,(Value.slice av k cv).ownBlock=some j -> l+1 <= j:=fun j hj=>(ac.lt j hj).1
      have N:=(A.block l (bl ag) (fun e=>by have:=ax l e.symm;omega)).trans ag;have ab:=r.below V r.lt;have ad:One w8 P b':=(A.block P ab.lt (fun e=>by have:=ax P e.symm;omega)).trans ab;have aP:=(aC.trans (K2.ofB V)).row A (fun j hj=>by have:=ax j hj;omega);have ba:w8.cell? ⟨l,0,none⟩=some (.slice av k cv):=cd w8 _ 0 _ _ _ N;have bg:w8.frozen? ⟨l,0,none⟩=false:=cw w8 _ 0 _ _ N;have aL:=cu w8 l 0 _ _ (.slice (some ⟨g2,0,none⟩) (k+1) K) N;have a4:=aP.trans (K2.ofM (Zan w8 l 0 (.slice (some ⟨g2,0,none⟩) (k+1) K)));have aA:One (w8.setCell ⟨l,0,none⟩ (.slice (some ⟨g2,0,none⟩) (k+1) K)) P b':=(cr w8 ⟨l,0,none⟩ P _ (by show P ≠ l;omega)).trans ad;have J:=cI aa (a:=⟨l,0,none⟩) (by show l < l+1;omega) (.slice (some ⟨g2,0,none⟩) (k+1) K)
      have aY:Hid ((Q ++ [x]).length=k+1):=by unfold Hid;rw [List.length_append,HL.out];rfl
      clear k0 k1 k2 k3 k4 kp A a6 aa N ad ag V;go_wp2
      go_roundw
      case rel=>exact ⟨k+1,Q ++ [x],b',_,by omega,by go_num,aJ,ar,aY,aA,aL,by rw [ZaD];exact J,a4⟩
      case measure=>simp [intOf];omega
    ·have HN:Hid (rdP zs a=none):=Zld (k:=k+1) H1.out (by omega) (by rw [ZbN,HR.out];simp only [Option.bind_some];rw [a2];rfl)
     unfold badV
     go_wp2_with (refine Zai rfl 194 _ _ rfl C.heap.size (ndA x) rfl rfl 194 _ (co _ _) Zn0 rfl (Zb4 _) ?_)
     intro y B ai _;have u:Below C.heap.size C y:=((cj _ _).alloc (ce _) _).trans ai;have I:=(u.block _ (Array.getElem?_eq_some_iff.1 W).1).trans W;have r:=a3.below u a3.lt;have T:=am.trans (K2.ofB u);have r0:y.cell? ⟨w.heap.size+1,0,none⟩=some (.slice none 0 0):=cd y _ 0 _ _ _ I;have rf:y.frozen? ⟨w.heap.size+1,0,none⟩=false:=cw y _ 0 _ _ I;have f:(y.setCell ⟨w.heap.size+1,0,none⟩ (.slice none 0 0)).heap[w.heap.size+1]? = some (.cells #[.slice none 0 0] 40 (0,0)):=cu y (w.heap.size+1) 0 _ _ (.slice none 0 0) I;have d:Below (w.heap.size+1) y (y.setCell ⟨w.heap.size+1,0,none⟩ (.slice none 0 0)):=(cj _ _).setCell (p:=⟨w.heap.size+1,0,none⟩) (ce _) _;go_wp2
     exact cx (Zac rfl _ _ (w.heap.size+1) 40 _ (0,0) _ rfl f underlying40 rfl ZnX) rfl ⟨Zal (T.grown (by omega)) d (by omega),Or.inr ⟨HN.out,⟨p,rfl⟩,_,r.below d (by omega)⟩⟩
   ·have aW:k=n:=by omega
    subst aW;have HG:Hid (rdP zs a=some (Q,b)):=Zk8 H1.out (by omega) HR.out HB.out (by show Q.length <= 3000;rw [HL.out];omega);have kp:wr.cell? ⟨l,0,none⟩=some (.slice av k cv):=cd wr _ 0 _ _ _ aw;have r0:wr.cell? ⟨w.heap.size+1,0,none⟩=some (.slice none 0 0):=cd wr _ 0 _ _ _ z1;have rf:wr.frozen? ⟨w.heap.size+1,0,none⟩=false:=cw wr _ 0 _ _ z1;have f:(wr.setCell ⟨w.heap.size+1,0,none⟩ (.slice av k cv)).heap[w.heap.size+1]? = some (.cells #[.slice av k cv] 40 (0,0)):=cu wr (w.heap.size+1) 0 _ _ (.slice av k cv) z1;have d:Below (w.heap.size+1) wr (wr.setCell ⟨w.heap.size+1,0,none⟩ (.slice av k cv)):=(cj _ _).setCell (p:=⟨w.heap.size+1,0,none⟩) (ce _) _;have J:=Zah (cI M (a:=⟨w.heap.size+1,0,none⟩) (by show w.heap.size+1 < l+1;omega) (.slice av k cv)) (show w.heap.size <= l+1 by omega);go_wp2
    exact cx (Zac rfl _ _ (w.heap.size+1) 40 _ (0,0) _ rfl f underlying40 rfl ZnX) rfl ⟨Zal (ay.grown (by omega)) d (by omega),Or.inl ⟨Q,b,_,HG.out,rfl,by rw [HL.out];exact J,Z.below d (by omega)⟩⟩
 ·rw [show [0].length=1 from rfl,Zce,Option.map_eq_none_iff] at e1
  have HN:Hid (rdP zs a=none):=by unfold Hid rdP;rw [e1];rfl
  unfold badV;go_wp2;exact cx (Zac rfl _ _ (w.heap.size+1) 40 _ (0,0) _ rfl f underlying40 rfl ZnX) rfl ⟨Zal ae d (by omega),Or.inr ⟨HN.out,⟨p,rfl⟩,_,U.below d (by omega)⟩⟩
theorem Zey (v:Value)(zs:List Int)(a:Int)(w:World)(R:Row w v zs)(f : -9223372036854775808 <= a)(i:a <= 9223372036854775807) :
  Calls prog 149 #[v,.int .i64 a] w fun e p=>e=.returned (tV (gT zs a))/\p=w:=by
 have m:=R;obtain ⟨y,q,rfl,d,t,k,b⟩:=m;clear k
 go_enter func149,ntmps149
 go_wp2_with fail;refine (Zg8 _ zs a w R f i).mono ?_;rintro e x ⟨rfl,rfl⟩;generalize hg:gN zs a=r;obtain ⟨n,next,ok⟩:=r;have j:Hid (gN zs a=(n,next,ok)):=hg;clear hg f i R;cases ok with
 | false =>
  have c:Hid (gT zs a=(⟨#[]⟩,0,false)):=Zlz zs a n next false j.out (Or.inl rfl);go_wp2_with fail
  go_ret3
  exact ⟨by rw [c.out];rfl,rfl⟩
 | true =>
  obtain ⟨o,s,l,u⟩:=Zku zs a n next j.out;obtain ⟨n,rfl⟩:=cG o;obtain ⟨next,rfl⟩:=cG l
  by_cases g:(zs.length:Int) - next < n
  ·have c:Hid (gT zs a=(⟨#[]⟩,0,false)):=Zlz zs a _ _ true j.out (Or.inr g)
   go_wp2_with fail
   go_ret3
   exact ⟨by rw [c.out];rfl,rfl⟩
  ·have c:Hid (gT zs a=(strOfNums ((zs.drop next).take n),(next:Int)+n,true)):=ZlJ zs a n next j.out (by omega)
   have h:next+n <= zs.length:=by omega
   go_wp2_with (refine ZbB _ rfl _ 186 9 5 rfl underlying186 underlying9 underlying5 _ _ _ ((zs.drop next).take n) rfl (by rw [ZeB zs next n h];omega) (by rw [Nat.add_sub_cancel_left];simpa using ZfH b next n h d) ?_)
   all_goals go_ret3
   all_goals exact ⟨by rw [c.out];rfl,rfl⟩
end Go.Proofs.YtkpfangkfknhoaaGreatDoor
