/-
  Texts that stood by themselves, laid into one.
-/
import Derived.Test.YtanhoamdlhaaeaaGreatDoorSWireM
import Derived.Test.YtanhoamdlhaaeaaGreatDoorMkListM
import Derived.Test.YtanhoamdlhaaeaaGreatDoorNodeFitsM
import Derived.Deep.RegionHeld
import Derived.Test.YtanhoamdlhaaeaaGreatDoorIPutM
import Derived.Test.YtanhoamdlhaaeaaGreatDoorShapeM
/-
  Contracts of impl.putNums, of the nine ways to put a node, of impl.wires and impl.putNodes. No condition but bounds.
-/
set_option maxRecDepth 100000
set_option maxHeartbeats 3200000
namespace Go.Proofs.YtanhoamdlhaaeaaGreatDoor
open Go.Proofs.Tryz
open Go.RowKit
def Puts (f:Nat)(x:Nd):Prop:=∀ (vb:Value) (bs:List Int) (B:Nat) (w:World),w.ownsRow B 5 1 vb bs.length (bv bs) -> B <= w.heap.size -> bs.length <= 400000 -> Calls prog f #[vb,.agg #[.int .i64 x.k,.int .i64 x.n,.string x.s,.int .i64 x.a,.int .i64 x.b]] w fun e w'=>∃ v',e=.returned v'/\w'.ownsRow B 5 1 v' (bs ++ ZbN x).length (bv (bs ++ ZbN x))/\Below B w w'/\Zlg w w'
def fnV (n:Nat):Value:=.func (.func n) #[] #[]
def Zb3:Array Value:=#[.nilFunc,.nilFunc,.func (.func 186) #[] #[],.func (.func 187) #[] #[],.func (.func 188) #[] #[],.func (.func 189) #[] #[],.func (.func 190) #[] #[],.func (.func 191) #[] #[],.func (.func 192) #[] #[],.func (.func 193) #[] #[],.func (.func 194) #[] #[],.func (.func 195) #[] #[],.func (.func 196) #[] #[],.func (.func 197) #[] #[],.func (.func 198) #[] #[],.func (.func 199) #[] #[],.func (.func 188) #[] #[],.func (.func 189) #[] #[],.func (.func 188) #[] #[],.func (.func 189) #[] #[]]
theorem ZdQ:Zb3.all (·.oneCell')=true:=by simp [Zb3,Value.oneCell']
theorem Zmb:(prog.info? 248).map (·.size)=some 20:=by kernel_rfl
theorem Zg6 (w:World):Calls prog 177 #[] w fun e f=>e=.returned (.agg Zb3)/\Below w.heap.size w f:=by
 go_enter func177,ntmps177
 go_wp2_with (refine Zak rfl 248 _ _ rfl w.heap.size Zb3 rfl rfl 248 _ (cg _ _) Zmb rfl ZdQ ?_)
 intro g c b d;have a:Below w.heap.size w g:=((cf _ _).alloc (ce _) _).trans b;go_wp2;exact ck (results_cell_row rfl _ _ w.heap.size 248 _ (0,0) _ rfl c underlying248 rfl Zmb) rfl ⟨rfl,a⟩
theorem Za3 {f:FuncId}{d:Func}{c:Code}(i:prog.funcs[f]? = some d)(b:(d.name == "runtime.NumGoroutine")=false)(g:d.body=some c)(a:Array Value)(w:World) :
  Sem.run prog (callFunc f a) w=.ok (.enter f a) w:=by
 have e:d.name ≠ "runtime.NumGoroutine" := by simpa using b
 simp [callFunc,i,e,g]
theorem ZgS (w:World)(a b c d:Obj):Below w.heap.size w ((((w.alloc a).alloc b).alloc c).alloc d)/\((((w.alloc a).alloc b).alloc c).alloc d).heap[w.heap.size]? = some a/\((((w.alloc a).alloc b).alloc c).alloc d).heap[w.heap.size+1]? = some b /\
  ((((w.alloc a).alloc b).alloc c).alloc d).heap[w.heap.size+1+1]? = some c/\((((w.alloc a).alloc b).alloc c).alloc d).heap[w.heap.size+1+1+1]? = some d/\((((w.alloc a).alloc b).alloc c).alloc d).heap.size=w.heap.size+1+1+1+1:=by
 have e:(w.alloc a).heap.size=w.heap.size+1:=by simp
 have f:((w.alloc a).alloc b).heap.size=w.heap.size+1+1:=by simp
 have g:(((w.alloc a).alloc b).alloc c).heap.size=w.heap.size+1+1+1:=by simp
 refine ⟨((((cf _ _).alloc (ce _) _).alloc (by omega) _).alloc (by omega) _).alloc (by omega) _,?_,?_,?_,?_,by simp⟩
 ·rw [cn _ _ (by omega),cn _ _ (by omega),cn _ _ (by omega)];exact cg _ _
 ·rw [cn _ _ (by omega),cn _ _ (by omega),<- e];exact cg _ _
 ·rw [cn _ _ (by omega),<- f];exact cg _ _
 ·rw [<- g];exact cg _ _
theorem ZkX (k:Int)(c:1 <= k)(d:k <= 9):∃ (n f:Nat),k=(n:Int)/\1 <= n/\n <= 9/\Zb3[n * 2+1]? = some (.func (.func f) #[] #[])/\Gets f k/\∀ a w,Sem.run prog (callFunc f a) w=.ok (.enter f a) w:=by
 have b:k=1 \/ k=2 \/ k=3 \/ k=4 \/ k=5 \/ k=6 \/ k=7 \/ k=8 \/ k=9:=by omega
 rcases b with rfl | rfl | rfl | rfl | rfl | rfl | rfl | rfl | rfl
 ·exact ⟨1,187,rfl,by omega,by omega,rfl,Zdn,Za3 func187 (by kernel_rfl) rfl⟩
 ·exact ⟨2,189,rfl,by omega,by omega,rfl,ZdZ 2 (Or.inl rfl),Za3 func189 (by kernel_rfl) rfl⟩
 ·exact ⟨3,191,rfl,by omega,by omega,rfl,ZgV,Za3 func191 (by kernel_rfl) rfl⟩
 ·exact ⟨4,193,rfl,by omega,by omega,rfl,ZfI,Za3 func193 (by kernel_rfl) rfl⟩
 ·exact ⟨5,195,rfl,by omega,by omega,rfl,ZeB,Za3 func195 (by kernel_rfl) rfl⟩
 ·exact ⟨6,197,rfl,by omega,by omega,rfl,ZgT,Za3 func197 (by kernel_rfl) rfl⟩
 ·exact ⟨7,199,rfl,by omega,by omega,rfl,Zjl,Za3 func199 (by kernel_rfl) rfl⟩
 ·exact ⟨8,189,rfl,by omega,by omega,rfl,ZdZ 8 (Or.inr (Or.inl rfl)),Za3 func189 (by kernel_rfl) rfl⟩
 ·exact ⟨9,189,rfl,by omega,by omega,rfl,ZdZ 9 (Or.inr (Or.inr rfl)),Za3 func189 (by kernel_rfl) rfl⟩
theorem Ziu {b:List Int}{k a:Int}(h:k < 1 \/ 9 < k):rdB b k a=none:=by
 unfold rdB;rw [if_neg (by omega),if_neg (by omega),if_neg (by omega),if_neg (by omega),if_neg (by omega),if_neg (by omega),if_neg (by omega)]
theorem ZbW (x:Nd):(ndA x).all (·.oneCell')=true:=by simp [ndA,Value.oneCell']
def Zlf (zs:List Int)(a:Int)(P:Nat)(e:Ending)(w':World):Prop :=
 (∃ x b,rdNd zs a=some (x,b)/\e=.returned (.tuple #[.agg (ndA x),.nilIface])/\One w' P b) \/ (rdNd zs a=none/\(∃ x p,e=.returned (.tuple #[.agg (ndA x),badV p]))/\∃ q,One w' P q)
theorem Ziy (v:Value)(i:List Int)(I w:World)(P:Nat)(a:Int)(R:Row I v i)(hb:Below I.heap.size I w)(hP:I.heap.size <= P)(h1:One w P a) :
  Calls prog 178 #[.agg #[v,.pointer (some ⟨P,0,none⟩)],.agg Zb3] w fun e t=>w.grownBy t (some P)/\Zlf i a P e t:=by
 obtain ⟨J,j,rfl,_⟩:=id R;have ae:=hb.size;have ac:=h1.lt;obtain ⟨u,H,L,D,x3,T⟩:=ZgS w (Obj.cells #[Value.slice J i.length j,Value.pointer (some ⟨P,0,none⟩)] 225) (Obj.cells Zb3 248) (Obj.cells #[.int .i64 0,.int .i64 0,.string ⟨#[]⟩,.int .i64 0,.int .i64 0] 176) (Obj.cells #[.int .i64 0,.int .i64 0,.string ⟨#[]⟩,.int .i64 0,.int .i64 0] 176)
 have hc:((((w.alloc (Obj.cells #[Value.slice J i.length j,Value.pointer (some ⟨P,0,none⟩)] 225)).alloc (Obj.cells Zb3 248)).alloc (Obj.cells #[.int .i64 0,.int .i64 0,.string ⟨#[]⟩,.int .i64 0,.int .i64 0] 176))).cell? ⟨P,0,none⟩=some (.int .i64 a):=by
  rw [World.cell?_alloc_lt _ _ ⟨P,0,none⟩ (by simp;omega),World.cell?_alloc_lt _ _ ⟨P,0,none⟩ (by simp;omega),World.cell?_alloc_lt _ _ ⟨P,0,none⟩ ac];exact h1.cell
 go_enter func178,ntmps178
 go_wp2_with fail;obtain ⟨B,ad⟩:∃ B,(((w.alloc (Obj.cells #[Value.slice J i.length j,Value.pointer (some ⟨P,0,none⟩)] 225)).alloc (Obj.cells Zb3 248)).alloc (Obj.cells #[.int .i64 0,.int .i64 0,.string ⟨#[]⟩,.int .i64 0,.int .i64 0] 176)).alloc (Obj.cells #[.int .i64 0,.int .i64 0,.string ⟨#[]⟩,.int .i64 0,.int .i64 0] 176)=B:=⟨_,rfl⟩;rw [ad] at u H L D x3 T ⊢;have g:Below B.heap.size B (B.alloc (Obj.cells (tgt (w.heap.size+1+1+1) [0]) 223)):=(cf _ _).alloc (ce _) _;have Q:=hb.trans (u.mono ae);have ah:B.heap[w.heap.size+1+1+1]? = some (.cells (ndA (nd0 0)) 176 (0,0)):=x3
 have HC:=Zdd _ i I (B.alloc (Obj.cells (tgt (w.heap.size+1+1+1) [0]) 223)) P (w.heap.size+1+1+1) B.heap.size a (ndA (nd0 0)) 176 [0] R (Q.trans (g.mono Q.size)) hP (by omega) ((h1.below u ac).below g (by omega)) ((g.block _ (by omega)).trans ah) (by intro o ho;simp at ho;simp [ndA];omega) (cg _ _) (by omega) (by omega) (by omega) (by simp);rw [T] at HC;have ai:w.heap.size+1+1+1+1 <= (B.alloc (Obj.cells (tgt (w.heap.size+1+1+1) [0]) 223)).heap.size:=by have:=g.size;omega
 have hG:K2 P (w.heap.size+1+1+1) w (B.alloc (Obj.cells (tgt (w.heap.size+1+1+1) [0]) 223)):=(K2.ofB u).trans (K2.ofB g);have H:=(g.block _ (by omega)).trans H;have L:=(g.block _ (by omega)).trans L;have D:=(g.block _ (by omega)).trans D;clear T hc x3 ah g;refine HC.mono ?_;rintro e m ⟨O,h⟩;have H:=(O.block _ (by omega) (by omega) (by omega)).trans H;have L:=(O.block _ (by omega) (by omega) (by omega)).trans L;have D:=(O.block _ (by omega) (by omega) (by omega)).trans D;have O:=hG.trans O;have G:w.grownBy m (some P):=O.grown (by omega);clear hG ai HC u Q ad;rcases h with ⟨q,F,rfl,N,e4⟩ | ⟨F,⟨p,rfl⟩,⟨q,N⟩,-⟩
 ·rw [show [0].length=1 from rfl,Zb1,Option.map_eq_some_iff] at F
  obtain ⟨⟨k,b⟩,F,rfl⟩:=F;have Y:Hid (rdNd i a=rdB i k b):=by unfold Hid rdNd;rw [F];rfl
  obtain ⟨k0,k1,_,_⟩:=Zco F;have N:One m P b:=N;have e4:m.heap[w.heap.size+1+1+1]? = some (.cells (ndA (nd0 k)) 176 (0,0)):=e4;have c0:m.cell? ⟨w.heap.size+1+1+1,0,none⟩=some (.int .i64 k):=cd m _ 0 _ _ _ e4;have k0:0 <= k:=k0;have k1:k <= 9223372036854775807:=k1;clear F
  by_cases aj:k < 1
  ·go_wp2_with (refine Zak rfl 176 _ _ rfl (w.heap.size+1+1) (ndA (nd0 0)) rfl rfl 176 _ D Zme rfl (ZbW _) ?_)
   intro c z l _;go_wp2;exact ck (Zah rfl _ _ (w.heap.size+1+1) 176 _ (0,0) _ rfl z underlying176 rfl Zme) rfl ⟨Zal G l (by omega),Or.inr ⟨by rw [Y.out];exact Ziu (Or.inl aj),⟨_,_,rfl⟩,b,N.below l (by omega)⟩⟩
  by_cases ak:9 < k
  ·go_wp2_with (refine Zak rfl 176 _ _ rfl (w.heap.size+1+1) (ndA (nd0 0)) rfl rfl 176 _ D Zme rfl (ZbW _) ?_)
   intro c z l _;go_wp2;exact ck (Zah rfl _ _ (w.heap.size+1+1) 176 _ (0,0) _ rfl z underlying176 rfl Zme) rfl ⟨Zal G l (by omega),Or.inr ⟨by rw [Y.out];exact Ziu (Or.inr ak),⟨_,_,rfl⟩,b,N.below l (by omega)⟩⟩
  obtain ⟨n,f,rfl,am,an,hw,K,ag⟩:=ZkX k (by omega) (by omega);have X:=K (.slice J i.length j) i I m.drew P (w.heap.size+1+1+1) b R;have af:Below I.heap.size I m.drew:=(hb.grown G ae (fun k hk=>by simp at hk;omega)).drew;have X:=X af hP (by omega) (by omega) N e4;have b0:m.cell? ⟨w.heap.size,0,none⟩=some (.slice J i.length j):=cd m _ 0 _ _ _ H;have b1:m.cell? ⟨w.heap.size,1,none⟩=some (.pointer (some ⟨P,0,none⟩)):=cd m _ 1 _ _ _ H;have c5:m.cell? ⟨w.heap.size+1,n * 2+1,none⟩=some (.func (.func f) #[] #[]):=(cd m _ (n * 2+1) _ _ _ L).trans hw
  have X:Calls prog f #[.agg #[.slice J i.length j,.pointer (some ⟨P,0,none⟩)],.pointer (some ⟨w.heap.size+1+1+1,0,none⟩)] m.drew fun e t=>∃ r,e=.returned r/\K2 P (w.heap.size+1+1+1) m.drew t/\Hid (((∃ x E,rdB i n b=some (x,E)/\r=.nilIface/\One t P E/\t.heap[w.heap.size+1+1+1]? = some (.cells (ndA x) 176 (0,0)))
   \/ (rdB i n b=none/\(∃ p,r=badV p)/\(∃ q,One t P q)/\∃ x:Nd,x.k=(n:Int)/\t.heap[w.heap.size+1+1+1]? = some (.cells (ndA x) 176 (0,0))))):=X.mono (by
    rintro e t ⟨ab,h'⟩;rcases h' with ⟨x,E,C,rfl,M,d⟩ | ⟨C,⟨p,rfl⟩,M,d⟩
    ·exact ⟨_,rfl,ab,Or.inl ⟨x,E,C,rfl,M,d⟩⟩
    ·exact ⟨_,rfl,ab,Or.inr ⟨C,⟨p,rfl⟩,M,d⟩⟩)
  clear K e4
  have SS:∀ (c:World) (r:Value),K2 P (w.heap.size+1+1+1) m.drew c -> Hid (((∃ x E,rdB i n b=some (x,E)/\r=.nilIface/\One c P E/\c.heap[w.heap.size+1+1+1]? = some (.cells (ndA x) 176 (0,0)))
   \/ (rdB i n b=none/\(∃ p,r=badV p)/\(∃ q,One c P q)/\∃ x:Nd,x.k=(n:Int)/\c.heap[w.heap.size+1+1+1]? = some (.cells (ndA x) 176 (0,0))))) ->
    c.cell? ⟨w.heap.size+1+1+1,0,none⟩=some (.int .i64 n)/\c.cell? ⟨w.heap.size+1,n * 2+1,none⟩=some (.func (.func f) #[] #[])/\c.cell? ⟨w.heap.size,0,none⟩=some (.slice J i.length j)/\c.cell? ⟨w.heap.size,1,none⟩=some (.pointer (some ⟨P,0,none⟩)):=by
   intro c r k2 Z;have l0:=(bl H);have l1:=(bl L);have y0:=(k2.block _ l0 (by omega) (by omega)).trans H;have y1:=(k2.block _ l1 (by omega) (by omega)).trans L
   have y2:∃ x:Nd,x.k=(n:Int)/\c.heap[w.heap.size+1+1+1]? = some (.cells (ndA x) 176 (0,0)):=by
    rcases Z.out with ⟨x,_,C,_,_,d⟩ | ⟨_,_,_,d⟩
    ·exact ⟨x,Zk9 C,d⟩
    ·exact d
   obtain ⟨x,hx,y2⟩:=y2;refine ⟨?_,(cd c _ (n * 2+1) _ _ _ y1).trans hw,cd c _ 0 _ _ _ y0,cd c _ 1 _ _ _ y0⟩;rw [cd c _ 0 _ _ _ y2,<- hx];rfl
  have al:(n:Int) <= 9:=by omega
  go_wp2_with fail
  go_region_held (fun t=>t.cell? ⟨w.heap.size+1+1+1,0,none⟩=some (.int .i64 n)/\t.cell? ⟨w.heap.size+1,n * 2+1,none⟩=some (.func (.func f) #[] #[])/\t.cell? ⟨w.heap.size,0,none⟩=some (.slice J i.length j)/\t.cell? ⟨w.heap.size,1,none⟩=some (.pointer (some ⟨P,0,none⟩))) (first | exact s2 | go_keep) (first
   | (refine X.mono ?_;rintro e c ⟨r,rfl,k2,Z⟩;have s2:=SS c r k2 Z))
  all_goals
   have l2:=(bl D);have y2:=(k2.block _ l2 (by omega) (by omega)).trans D;have aa:w.grownBy c (some P):=((O.trans (K2.ofB (cf _ m).drew)).trans k2).grown (by omega);clear X SS s2 b0 b1 c5 c0 ag;rcases Z.out with ⟨x,E,C,rfl,M,d⟩ | ⟨C,⟨p,rfl⟩,⟨q,M⟩,x,A,d⟩
   ·have A:=Zk9 C
    obtain ⟨xk,W,s,U,V⟩:=x
    dsimp only at A
    subst A;have c0:c.cell? ⟨w.heap.size+1+1+1,0,none⟩=some (.int .i64 n):=cd c _ 0 _ _ _ d;have c1:c.cell? ⟨w.heap.size+1+1+1,1,none⟩=some (.int .i64 W):=cd c _ 1 _ _ _ d;have c2:c.cell? ⟨w.heap.size+1+1+1,2,none⟩=some (.string s):=cd c _ 2 _ _ _ d;have c3:c.cell? ⟨w.heap.size+1+1+1,3,none⟩=some (.int .i64 U):=cd c _ 3 _ _ _ d;have c4:c.cell? ⟨w.heap.size+1+1+1,4,none⟩=some (.int .i64 V):=cd c _ 4 _ _ _ d;clear Z
    go_wp2_with (refine Zak rfl 176 _ _ rfl (w.heap.size+1+1) (ndA ⟨n,W,s,U,V⟩) rfl rfl 176 _ y2 Zme rfl (ZbW _) ?_)
    intro w3 S y _;go_wp2;exact ck (Zah rfl _ _ (w.heap.size+1+1) 176 _ (0,0) _ rfl S underlying176 rfl Zme) rfl ⟨Zal aa y (by omega),Or.inl ⟨⟨n,W,s,U,V⟩,E,by rw [Y.out];exact C,rfl,M.below y (by omega)⟩⟩
   ·obtain ⟨xk,W,s,U,V⟩:=x
    dsimp only at A
    subst A;have c0:c.cell? ⟨w.heap.size+1+1+1,0,none⟩=some (.int .i64 n):=cd c _ 0 _ _ _ d;have c1:c.cell? ⟨w.heap.size+1+1+1,1,none⟩=some (.int .i64 W):=cd c _ 1 _ _ _ d;have c2:c.cell? ⟨w.heap.size+1+1+1,2,none⟩=some (.string s):=cd c _ 2 _ _ _ d;have c3:c.cell? ⟨w.heap.size+1+1+1,3,none⟩=some (.int .i64 U):=cd c _ 3 _ _ _ d;have c4:c.cell? ⟨w.heap.size+1+1+1,4,none⟩=some (.int .i64 V):=cd c _ 4 _ _ _ d;clear Z
    go_wp2_with (refine Zak rfl 176 _ _ rfl (w.heap.size+1+1) (ndA ⟨n,W,s,U,V⟩) rfl rfl 176 _ y2 Zme rfl (ZbW _) ?_)
    intro w3 S y _;go_wp2;exact ck (Zah rfl _ _ (w.heap.size+1+1) 176 _ (0,0) _ rfl S underlying176 rfl Zme) rfl ⟨Zal aa y (by omega),Or.inr ⟨by rw [Y.out];exact C,⟨⟨n,W,s,U,V⟩,p,rfl⟩,q,M.below y (by omega)⟩⟩
 ·rw [show [0].length=1 from rfl,Zb1,Option.map_eq_none_iff] at F
  have Y:Hid (rdNd i a=none):=by unfold Hid rdNd;rw [F];rfl
  unfold badV
  go_wp2_with (refine Zak rfl 176 _ _ rfl (w.heap.size+1+1) (ndA (nd0 0)) rfl rfl 176 _ D Zme rfl (ZbW _) ?_)
  intro c z l _;go_wp2;exact ck (Zah rfl _ _ (w.heap.size+1+1) 176 _ (0,0) _ rfl z underlying176 rfl Zme) rfl ⟨Zal G l (by omega),Or.inr ⟨Y.out,⟨_,p,rfl⟩,q,N.below l (by omega)⟩⟩
end Go.Proofs.YtanhoamdlhaaeaaGreatDoor
